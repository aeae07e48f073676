/- Part 23 of the texts. -/
import Derived.Test.YtibolacikaanpaaDoorPart22
import Derived.Test.YtibolacikaanpaaDoorPart04
import Derived.Test.YtibolacikaanpaaDoorChecked
import Derived.Test.YtibolacikaanpaaDoorPart02
import Derived.ProofKit
import Derived.SizedLaws
import Derived.Lib.SmallJoins
import Derived.Test.YtibolacikaanpaaDoorRows
import Derived.Test.YtibolacikaanpaaDoorPart12
import Derived.Lib.LaidTab
import Derived.OpenShut
import Derived.Deep.DeepHandedRow
/- The law TimesPowers, walked. -/
namespace Go.Proofs.YtibolacikaanpaaDoor
open Go.RowKit

theorem power_val (n : Int) (m : Nat) (h : n % 18446744073709551616 % 601 = (m : Int)) : IntKind.u64.wrap (IntKind.u64.wrap (723 + (IntKind.u64.wrap n).tmod 601) * 4503599627370496) = (((723 + m) * 4503599627370496 : Nat) : Int) := by
  simp only [IntKind.wrap_u64]
  rw [Int.tmod_eq_emod_of_nonneg (by omega), h]
  omega

set_option maxRecDepth 20000 in
set_option maxHeartbeats 2000000 in
theorem power_n (n : Int) (m : Nat) (w : World) (h : n % 18446744073709551616 % 601 = (m : Int)) :
    Calls Tryd.prog 19 #[.int .i64 n] w fun r w' => r = .returned (.int .u64 (((723 + m) * 4503599627370496 : Nat) : Int)) ∧ w = w' := by
  have H := hide (power_val n m h)
  clear h
  go_enter Tryd.func19, Tryd.ntmps19
  go_wp2
  go_ret
  exact ⟨ret_int (unhide H), rfl⟩

set_option maxRecDepth 20000 in
set_option maxHeartbeats 2000000 in
theorem timesPowers_out (a : Nat) (n : Int) (p : Nat) (w : World) (hp : p < 700 ∨ 1300 < p) (hT : Tab w)
    (C1 : ∀ w', Calls Tryd.prog 18 #[.int .u64 a] w' fun r w'' => r = .returned (.int .i64 (p : Nat)) ∧ w' = w'') :
    Calls Tryd.prog 7 #[.int .u64 a, .int .i64 n] w fun r w' => r = .returned (.bool true) ∧ Below w.heap.size w w' := by
  have K1 := hide C1
  have K3 := hide (fun w' t => awake6_any w' t)
  clear C1
  rcases hp with hp | hp
  · have h1 : (p : Int) < 700 := by omega
    clear hp
    go_enter Tryd.func7, Tryd.ntmps7
    go_wp2_with fail
    refine (unhide K1 _).mono ?_
    rintro e wk ⟨rfl, rfl⟩
    go_wp2_with fail
    refine (unhide K3 _ hT).mono ?_
    rintro e w3 ⟨rfl, hb3⟩
    go_wp2
    go_ret
    exact ⟨rfl, hb3⟩
  · have h1 : ¬ (p : Int) < 700 := by omega
    have h2 : (p : Int) > 1300 := by omega
    clear hp
    go_enter Tryd.func7, Tryd.ntmps7
    go_wp2_with fail
    refine (unhide K1 _).mono ?_
    rintro e wk ⟨rfl, rfl⟩
    go_wp2_with fail
    refine (unhide K1 _).mono ?_
    rintro e wk ⟨rfl, rfl⟩
    go_wp2_with fail
    refine (unhide K3 _ hT).mono ?_
    rintro e w3 ⟨rfl, hb3⟩
    go_wp2
    go_ret
    exact ⟨rfl, hb3⟩

set_option maxRecDepth 20000 in
set_option maxHeartbeats 4000000 in
theorem timesPowers_in (a s q f : Nat) (n : Int) (p : Nat) (w : World) (h1 : ¬ (p : Int) < 700) (h2 : ¬ (p : Int) > 1300) (hT : Tab w)
    (C1 : ∀ w', Calls Tryd.prog 18 #[.int .u64 a] w' fun r w'' => r = .returned (.int .i64 (p : Nat)) ∧ w' = w'')
    (C2 : ∀ w', Calls Tryd.prog 19 #[.int .i64 n] w' fun r w'' => r = .returned (.int .u64 (q : Nat)) ∧ w' = w'')
    (C4 : ∀ w', Tab w' → Calls Tryd.prog 9 #[.int .u64 a, .int .u64 (q : Nat)] w' fun r w'' => r = .returned (.tuple #[.int .u64 (s : Nat), .int .u8 0]) ∧ Below w'.heap.size w' w'')
    (C5 : ∀ w', Tab w' → Calls Tryd.prog 13 #[.int .u64 (s : Nat), .int .u64 (q : Nat)] w' fun r w'' => r = .returned (.tuple #[.int .u64 a, .int .u8 0]) ∧ Below w'.heap.size w' w'')
    (C6 : ∀ w', Calls Tryd.prog 20 #[.int .u64 (s : Nat)] w' fun r w'' => r = .returned (.int .u64 (f : Nat)) ∧ w' = w'')
    (C7 : ∀ w', Calls Tryd.prog 20 #[.int .u64 a] w' fun r w'' => r = .returned (.int .u64 (f : Nat)) ∧ w' = w'') :
    Calls Tryd.prog 7 #[.int .u64 a, .int .i64 n] w fun r w' => r = .returned (.bool true) ∧ Below w.heap.size w w' := by
  have K1 := hide C1; have K2 := hide C2; have K4 := hide C4; have K5 := hide C5; have K6 := hide C6; have K7 := hide C7
  have K3 := hide (fun w' t => awake6_any w' t)
  clear C1 C2 C4 C5 C6 C7
  go_enter Tryd.func7, Tryd.ntmps7
  go_wp2_with fail
  refine (unhide K1 _).mono ?_
  rintro e wk ⟨rfl, rfl⟩
  go_wp2_with fail
  refine (unhide K1 _).mono ?_
  rintro e wk ⟨rfl, rfl⟩
  go_wp2_with fail
  refine (unhide K2 _).mono ?_
  rintro e wk ⟨rfl, rfl⟩
  go_wp2_with fail
  refine (unhide K4 _ hT).mono ?_
  rintro e w1 ⟨rfl, hb1⟩
  have B1 := hide hb1
  clear hb1 K4 K1 K2
  go_wp2_with fail
  refine (unhide K5 _ (hT.all (unhide B1))).mono ?_
  rintro e w2 ⟨rfl, hb1⟩
  have B2 := hide ((unhide B1).trans (hb1.mono (unhide B1).size))
  clear hb1 K5 B1
  go_wp2_with fail
  refine (unhide K6 _).mono ?_
  rintro e wk ⟨rfl, rfl⟩
  go_wp2_with fail
  refine (unhide K7 _).mono ?_
  rintro e wk ⟨rfl, rfl⟩
  go_wp2_with fail
  refine (unhide K3 _ (hT.all (unhide B2))).mono ?_
  rintro e w4 ⟨rfl, hb1⟩
  have B4 := hide ((unhide B2).trans (hb1.mono (unhide B2).size))
  clear hb1 K3 B2
  go_wp2
  go_ret
  exact ⟨rfl, unhide B4⟩

theorem timesPowers_walk (a : Nat) (n : Int) (w : World) (ha : a < 18446744073709551616) (hT : Tab w) :
    Calls Tryd.prog 7 #[.int .u64 a, .int .i64 n] w fun r w' => r = .returned (.bool true) ∧ Below w.heap.size w w' := by
  have C1 := fun w' => rpower_any a w' ha
  by_cases hp : fP a < 700 ∨ 1300 < fP a
  · exact timesPowers_out a n (fP a) w hp hT C1
  · obtain ⟨m, hm⟩ : ∃ m : Nat, n % 18446744073709551616 % 601 = (m : Int) := ⟨(n % 18446744073709551616 % 601).toNat, by omega⟩
    obtain ⟨s, s1, s2, s3, s4, s5, s6⟩ := power6 a (723 + m) ha (by omega) (by omega) (by omega) (by omega)
    have hq : (723 + m) * 4503599627370496 < 18446744073709551616 := by omega
    have C2 := fun w' => power_n n m w' hm
    generalize (723 + m) * 4503599627370496 = q at *
    have C4 := fun w' t => tmul_any a q w' ha hq t
    have C5 := fun w' t => tdiv_any s q w' s1 hq t
    rw [s2, s3] at C4
    rw [s4, s5] at C5
    have C6 := fun w' => rfrac_any s w' s1
    rw [s6] at C6
    exact timesPowers_in a s q (fF a) n (fP a) w (by omega) (by omega) hT C1 C2 C4 C5 C6 (fun w' => rfrac_any a w' ha)

end Go.Proofs.YtibolacikaanpaaDoor

/- A struct of a sign and limbs that came in, opened. -/
namespace Go.Proofs.YtibolacikaanpaaDoor
open Go.ChangeShapes Go.WideShapes Go.ChangeAt Go.RowKit Go.Joins

theorem Tryd.own : ownKnob Tryd.prog.godebug = none := by kernel_rfl
theorem Tryd.laidOut : laidOutB Tryd.prog = true := by kernel_rfl
theorem Tryd.cellsW : Tryd.prog.cellsOf 44 = 2 := by kernel_rfl
theorem Tryd.cellsU : Tryd.prog.cellsOf 82 = 1 := by kernel_rfl
theorem Tryd.bytesU : Tryd.prog.bytesOf 82 = 4 := by kernel_rfl

theorem bounds_of_u32 {x : Int} (h : (Lit.int .u32 x).wf = true) : 0 ≤ x ∧ x < 4294967296 := by
  simp [Lit.wf, IntKind.min, IntKind.max, IntKind.signed, IntKind.bits] at h
  omega

theorem limbs_of_ints {W : World} {a : Addr} {len cap : Nat} {zs : List Int} (hl : len ≤ cap) (hz : zs.length = cap) (hc : ∀ i, i < zs.length → W.cell? (a.add i) = some (.int .u32 (zs.getD i 0))) (hw : ∀ n ∈ zs, (Lit.int .u32 n).wf = true) :
    LimbsAt W (some a) cap ((zs.take len).map Int.toNat) ∧ ((zs.take len).map Int.toNat).length = len := by
  have hlen : ((zs.take len).map Int.toNat).length = len := by simp; omega
  refine ⟨⟨by omega, ?_, ?_⟩, hlen⟩
  · intro x hx
    obtain ⟨y, hy, rfl⟩ := List.mem_map.1 hx
    have := bounds_of_u32 (hw y (List.mem_of_mem_take hy))
    omega
  · rcases Nat.eq_zero_or_pos len with rfl | hp
    · left; simp
    · right
      obtain ⟨b, off, spot⟩ := a
      have h0 := hc 0 (by omega)
      have hspot : spot = none := by simpa [Addr.add] using World.cell?_spot h0
      subst hspot
      have hb : b < W.heap.size := by
        have := World.block_lt_of_cell? W _ h0
        simpa [Addr.add] using this
      refine ⟨b, off, rfl, hb, fun i hi => ?_⟩
      have h1 := hc i (by omega)
      have h2 : (0 : Int) ≤ zs[i]'(by omega) := (bounds_of_u32 (hw _ (List.getElem_mem _))).1
      have h3 : (⟨b, off, none⟩ : Addr).add i = ⟨b, off + i, none⟩ := by simp [Addr.add]
      rw [h3] at h1
      rw [h1]
      have e : ((zs.take len).map Int.toNat)[i]?.getD 0 = (zs[i]'(by omega)).toNat := by
        rw [List.getElem?_map, List.getElem?_take, if_pos (by omega), List.getElem?_eq_getElem (by omega)]; rfl
      rw [e, List.getD_eq_getElem?_getD, List.getElem?_eq_getElem (by omega)]
      simp only [Option.getD_some, Option.some.injEq, Value.int.injEq, true_and]
      omega

set_option maxRecDepth 20000 in
/-- A number that came in: its sign, its limbs, where they lie; by the row's own reach they are not too many. -/
theorem open_whole {H : Type} {enc : TypeId × Value → H} {W : World} {base : Nat} {v : Value} {d : DataW H} {p : List MemPlace} (hval : Value.okWide Tryd.prog W .any base 44 v) (h : DataW.Trod enc Tryd.prog W 0 (fun _ => true) true 44 v d p)
    (hs : ∀ n ∈ d.weights Tryd.prog 44, n ≤ reachBytes) :
    ∃ neg ao cap L, v = .agg #[.bool neg, .slice ao L.length cap] ∧ LimbsAt W ao cap L ∧ L.length ≤ 35184372087808 := by
  obtain ⟨c0, c1, y0, y1, m, rfl, rfl, rfl, hy0, hy1⟩ := open_agg2 Tryd.underlying44 (by kernel_rfl) Tryd.cellsW hval h
  obtain ⟨neg, e0, rfl⟩ := DataW.trod_bool Tryd.underlying4 hy0
  simp at e0
  subst e0
  rcases open_ints Tryd.underlying42 Tryd.underlying82 Tryd.cellsU hy1 with ⟨hcs, _⟩ | ⟨a, len, cap, zs, hcs, _, hl, hm, hz, rfl, hcell, hwz⟩
  · simp at hcs
    subst hcs
    exact ⟨neg, none, 0, [], rfl, LimbsAt.nil _ _ _, by simp⟩
  · simp at hcs
    subst hcs
    obtain ⟨h1, h2⟩ := limbs_of_ints hl (by simpa using hz) hcell hwz
    refine ⟨neg, some a, cap, _, by rw [h2], h1, ?_⟩
    have hk := hs ((zs.length) * 4) (by
      simp only [DataW.weights, Tryd.underlying44, DataW.weightsEach, List.map, Tryd.underlying42, List.nil_append, List.append_nil, List.mem_cons, Tryd.bytesU, lits, List.length_map, List.length_take, List.length_drop]
      left
      omega)
    simp only [reachBytes] at hk
    rw [h2]
    have : zs.length = cap := by simpa using hz
    omega

end Go.Proofs.YtibolacikaanpaaDoor

/- The bounds of an int or int64 that came in. -/
namespace Go.Proofs.YtibolacikaanpaaDoor

theorem bounds_of_i64 {x : Int} (h : (Lit.int .i64 x).wf = true) : -9223372036854775808 ≤ x ∧ x ≤ 9223372036854775807 := by
  simp [Lit.wf, IntKind.min, IntKind.max, IntKind.signed, IntKind.bits] at h
  omega

end Go.Proofs.YtibolacikaanpaaDoor

/- A dyadic number that came in, opened; the library's table, as the row lays it. -/
namespace Go.Proofs.YtibolacikaanpaaDoor
open Go.ChangeShapes Go.WideShapes Go.ChangeAt Go.RowKit Go.Joins

theorem Tryd.cellsD : Tryd.prog.cellsOf 46 = 3 := by kernel_rfl
theorem Tryd.cellsI : Tryd.prog.cellsOf 3 = 1 := by kernel_rfl
theorem Tryd.cellsB : Tryd.prog.cellsOf 4 = 1 := by kernel_rfl
theorem Tryd.cellsS : Tryd.prog.cellsOf 42 = 1 := by kernel_rfl

theorem Tryd.tabName : Tryd.prog.globalNamed "math/bits.deBruijn32tab" = some 1 := by kernel_rfl
theorem Tryd.tabType : (Tryd.prog.globals[1]?).map (·.type) = some 107 := by kernel_rfl
theorem Tryd.tabCells : Tryd.prog.cellsOf 107 = 32 := by kernel_rfl
theorem Tryd.byteCells : Tryd.prog.cellsOf 5 = 1 := by kernel_rfl

theorem tab_getD : ∀ j, j < Lib.deBruijn32tab.length → (List.map Int.ofNat Lib.deBruijn32tab).getD j 0 = ((Lib.deBruijn32tab.getD j 0 : Nat) : Int) := by decide

/-- What the rows' list gives: the table's cells. -/
theorem tab_of_laid {W : World} (h : laidMetH Tryd.prog [("math/bits.deBruijn32tab", Rows.laid_math_bits_deBruijn32tab)] W) : Tab W := by
  have ht := Lib.tabIs_of_head (zs := Lib.deBruijn32tab.map Int.ofNat) (rest := []) Tryd.tabName Tryd.tabType Tryd.underlying107 Tryd.underlying5 Tryd.byteCells Tryd.tabCells h
  intro j hj
  have := ht.cell Tryd.tabName j (by simpa using hj)
  rw [this]
  congr 2
  exact tab_getD j hj

set_option maxRecDepth 20000 in
/-- A dyadic number that came in. -/
theorem open_dyadic {H : Type} {enc : TypeId × Value → H} {W : World} {base : Nat} {v : Value} {d : DataW H} {p : List MemPlace} (hval : Value.okWide Tryd.prog W .any base 46 v) (h : DataW.Trod enc Tryd.prog W 0 (fun _ => true) true 46 v d p)
    (hs : ∀ n ∈ d.weights Tryd.prog 46, n ≤ reachBytes) :
    ∃ (neg : Bool) (ao : Option Addr) (cap : Nat) (L : List Nat) (e : Int), v = .agg #[.bool neg, .slice ao L.length cap, .int .i64 e] ∧ LimbsAt W ao cap L ∧ L.length ≤ 35184372087808 ∧ (-9223372036854775808 ≤ e ∧ e ≤ 9223372036854775807) := by
  obtain ⟨cs, rfl, hsz⟩ := okWide_struct Tryd.underlying46 hval
  obtain ⟨c0, c1, c2, rfl⟩ := array3 (hsz.trans Tryd.cellsD)
  obtain ⟨fuel, hf⟩ := h
  obtain ⟨y0, y1, n, hx, _, h0, h1⟩ := trod_struct2 Tryd.underlying46 hf
  simp only [Prod.mk.injEq] at hx
  obtain ⟨rfl, rfl⟩ := hx
  have h0' : DataW.trod enc Tryd.prog W 0 (fun _ => true) true n 44 [c0, c1] = some y0 := by simpa [Value.cells, Tryd.cellsW] using h0
  have h1' : DataW.trod enc Tryd.prog W 0 (fun _ => true) true n 3 [c2] = some y1 := by simpa [Value.cells, Tryd.cellsI] using h1
  clear h0 h1
  obtain ⟨e, e1, e2, we⟩ := DataW.trod_int Tryd.underlying3 h1'
  simp at e1
  subst e1
  obtain ⟨z0, z1, m, hz, _, g0, g1⟩ := trod_struct2 Tryd.underlying44 h0'
  subst hz
  have g0' : DataW.trod enc Tryd.prog W 0 (fun _ => true) true m 4 [c0] = some z0 := by simpa [Tryd.cellsB] using g0
  have g1' : DataW.trod enc Tryd.prog W 0 (fun _ => true) true m 42 [c1] = some z1 := by simpa [Tryd.cellsS] using g1
  clear g0 g1
  obtain ⟨neg, e0, _⟩ := DataW.trod_bool Tryd.underlying4 g0'
  simp at e0
  subst e0
  have be := bounds_of_i64 we
  rcases open_ints Tryd.underlying42 Tryd.underlying82 Tryd.cellsU g1' with ⟨hcs, _⟩ | ⟨a, len, cap, zs, hcs, _, hl, hm, hzz, rfl, hcell, hwz⟩
  · simp at hcs
    subst hcs
    exact ⟨neg, none, 0, [], e, rfl, LimbsAt.nil _ _ _, by simp, be⟩
  · simp at hcs
    subst hcs
    obtain ⟨l1, l2⟩ := limbs_of_ints hl (by simpa using hzz) hcell hwz
    refine ⟨neg, some a, cap, _, e, by rw [l2], l1, ?_, be⟩
    have hk := hs ((zs.length) * 4) (by
      simp only [DataW.weights, Tryd.underlying46, Tryd.underlying44, DataW.weightsEach, List.map, Tryd.underlying42, List.append_nil, List.mem_cons, List.mem_append, Tryd.bytesU, lits, List.length_map, List.length_take, List.length_drop]
      refine .inl (.inr (.inl ?_))
      have : zs.length = cap := by simpa using hzz
      omega)
    simp only [reachBytes] at hk
    rw [l2]
    have : zs.length = cap := by simpa using hzz
    omega

end Go.Proofs.YtibolacikaanpaaDoor

/- Bits that came in. -/
namespace Go.Proofs.YtibolacikaanpaaDoor
open Go.ChangeShapes Go.WideShapes Go.ChangeAt Go.RowKit

theorem nat_of_u64 {n : Int} (h : (Lit.int .u64 n).wf = true) : ∃ m : Nat, n = (m : Int) ∧ m < 18446744073709551616 := by
  simp [Lit.wf, IntKind.min, IntKind.max, IntKind.signed, IntKind.bits] at h
  exact ⟨n.toNat, by omega, by omega⟩

end Go.Proofs.YtibolacikaanpaaDoor

