/- Part 36 of the texts. -/
import Derived.Test.YtlbggedahpnjgaaGreatDoorPart35
import Derived.Test.YtlbggedahpnjgaaGreatDoorChecked
import Derived.Test.YtlbggedahpnjgaaGreatDoorPart02
import Derived.ProofKit
import Derived.SizedLaws
import Derived.Lib.SmallJoins
import Derived.Test.YtlbggedahpnjgaaGreatDoorRows
import Derived.Test.YtlbggedahpnjgaaGreatDoorPart12
import Derived.Lib.LaidTab
import Derived.OpenShut
import Derived.Deep.DeepHandedRow
/- The law VectorSigns, any list. -/
namespace Go.Proofs.YtlbggedahpnjgaaGreatDoor
open Go.RowKit

theorem toN_mk (n : Nat) (f : Nat → Nat) : toN (mkL n f) = (List.range n).map f := by
  unfold toN mkL
  rw [List.map_map]
  exact (List.map_congr_left fun x _ => by simp).trans (List.map_id _)
theorem toN_get {I : List Int} {i x : Nat} (h : (toN I)[i]? = some x) : i < I.length ∧ x = atB I i := by
  have hi : i < I.length := by
    rcases Nat.lt_or_ge i I.length with g | g
    · exact g
    · rw [List.getElem?_eq_none (by rw [toN_len]; exact g)] at h; cases h
  rw [toN_at I i hi] at h
  exact ⟨hi, (Option.some.inj h).symm⟩
theorem mk_get {n : Nat} {f : Nat → Nat} {i y : Nat} (h : (toN (mkL n f))[i]? = some y) : y = f i := by
  rw [toN_mk, List.getElem?_map] at h
  cases hr : (List.range n)[i]? with
  | none => rw [hr] at h; cases h
  | some z =>
    rw [hr] at h
    have hz : z = i := by
      obtain ⟨h1, h2⟩ := List.getElem?_eq_some_iff.1 hr
      rw [List.getElem_range] at h2
      exact h2.symm
    subst hz
    exact (Option.some.inj h).symm

theorem signs_norm {w : World} {ao : Option Addr} {c : Nat} {I : List Int} (hI : BitsAt w ao c I) (h : tmK 400 I I.length = true) (sg : Nat) : nmV (snL sg I) = nmV I := by
  rw [nmV_nrV, nmV_nrV]
  refine (norm_signs 400 (toN I) (toN (snL sg I)) (tame_list hI h) ?_ ?_ ?_).symm
  · intro y hy
    unfold snL at hy
    rw [toN_mk] at hy
    obtain ⟨k, _, rfl⟩ := List.mem_map.1 hy
    exact sgX_lt _ _ _ (hI.lt k)
  · rw [toN_len, toN_len]
    exact (mkL_len _ _).symm
  · intro i x y hx hy
    obtain ⟨_, rfl⟩ := toN_get hx
    rw [mk_get hy, sgX_mag _ _ _ (hI.lt i)]
theorem shift_norm {w : World} {ao : Option Addr} {c : Nat} {I : List Int} (hI : BitsAt w ao c I) (hn : I.length ≤ 64) (h : tmK 400 I I.length = true) (j : Int) (hj : -400 ≤ j ∧ j ≤ 400) : nmV (shL j I) = xV (nmV I) j := by
  rw [nmV_nrV, nmV_nrV]
  refine norm_scale (toN I) (toN (shL j I)) j hj (by rw [toN_len]; exact hn) (tame_list hI h) ?_ ?_
  · rw [toN_len, toN_len]
    exact (mkL_len _ _).symm
  · intro i x z hx hz
    obtain ⟨_, rfl⟩ := toN_get hx
    exact mk_get (f := fun k => xV (atB I k) j) hz

theorem vectorSigns_walk (ao : Option Addr) (c : Nat) (I : List Int) (sg : Nat) (k0 : Int) (w : World) (hI : BitsAt w ao c I) (hn : I.length ≤ 35184372088830) (_hs : sg < 18446744073709551616) (_hk : -9223372036854775808 ≤ k0 ∧ k0 ≤ 9223372036854775807) (hT : Tab w) :
    Calls Tryz.prog 6 #[.slice ao I.length c, .int .u64 sg, .int .i64 k0] w fun r w' => r = .returned (.bool true) ∧ Below w.heap.size w w' := by
  have C1 := fun w' => fits_same ao I.length c w'
  have C2 := fun w' (hb : Below w.heap.size w w') => r9tame_any ao c I 400 w' (hI.below hb) hn (by decide)
  have C8 := fun w' (hb : Below w.heap.size w w') => awake9_any w' (hT.all hb)
  by_cases h : I.length ≤ 64
  · rw [if_pos h] at C1
    cases ht : tmK 400 I I.length
    · rw [ht] at C2
      exact vectorSigns_far ao _ c sg k0 0 false w (.inr ⟨rfl, rfl⟩) C1 C2 C8
    · rw [ht] at C2
      refine vectorSigns_in ao c sg I k0 (nmV I) w hI h (nmV_lt I) hT C1 C2 (fun w' hb => vNorm_ok ao c I w' (hI.below hb) h (hT.all hb)) (fun w' bo d ht' hb => ?_) (fun j hj w' bo d ht' hb => ?_)
      · have hl : (snL sg I).length = I.length := mkL_len _ _
        have := vNorm_ok bo d (snL sg I) w' hb (by rw [hl]; exact h) ht'
        rw [signs_norm hI ht sg, hl] at this
        exact this
      · have hl : (shL j I).length = I.length := mkL_len _ _
        have := vNorm_ok bo d (shL j I) w' hb (by rw [hl]; exact h) ht'
        rw [shift_norm hI h ht j hj, hl] at this
        exact this
  · rw [if_neg h] at C1
    exact vectorSigns_far ao _ c sg k0 3 _ w (.inl rfl) C1 C2 C8

end Go.Proofs.YtlbggedahpnjgaaGreatDoor

/- A struct of a sign and limbs that came in, opened. -/
namespace Go.Proofs.YtlbggedahpnjgaaGreatDoor
open Go.ChangeShapes Go.WideShapes Go.ChangeAt Go.RowKit Go.Joins

theorem Tryz.own : ownKnob Tryz.prog.godebug = none := by kernel_rfl
theorem Tryz.laidOut : laidOutB Tryz.prog = true := by kernel_rfl
theorem Tryz.cellsW : Tryz.prog.cellsOf 43 = 2 := by kernel_rfl
theorem Tryz.cellsU : Tryz.prog.cellsOf 87 = 1 := by kernel_rfl
theorem Tryz.bytesU : Tryz.prog.bytesOf 87 = 4 := by kernel_rfl

theorem bounds_of_u32 {x : Int} (h : (Lit.int .u32 x).wf = true) : 0 ≤ x ∧ x < 4294967296 := by
  simp [Lit.wf, IntKind.min, IntKind.max, IntKind.signed, IntKind.bits] at h
  omega

theorem limbs_of_ints {W : World} {a : Addr} {len cap : Nat} {zs : List Int} (hl : len ≤ cap) (hz : zs.length = cap) (hc : ∀ i, i < zs.length → W.cell? (a.add i) = some (.int .u32 (zs.getD i 0))) (hw : ∀ n ∈ zs, (Lit.int .u32 n).wf = true) :
    LimbsAt W (some a) cap ((zs.take len).map Int.toNat) ∧ ((zs.take len).map Int.toNat).length = len := by
  have hlen : ((zs.take len).map Int.toNat).length = len := by simp; omega
  refine ⟨⟨by omega, ?_, ?_⟩, hlen⟩
  · intro x hx
    obtain ⟨y, hy, rfl⟩ := List.mem_map.1 hx
    have := bounds_of_u32 (hw y (List.mem_of_mem_take hy))
    omega
  · rcases Nat.eq_zero_or_pos len with rfl | hp
    · left; simp
    · right
      obtain ⟨b, off, spot⟩ := a
      have h0 := hc 0 (by omega)
      have hspot : spot = none := by simpa [Addr.add] using World.cell?_spot h0
      subst hspot
      have hb : b < W.heap.size := by
        have := World.block_lt_of_cell? W _ h0
        simpa [Addr.add] using this
      refine ⟨b, off, rfl, hb, fun i hi => ?_⟩
      have h1 := hc i (by omega)
      have h2 : (0 : Int) ≤ zs[i]'(by omega) := (bounds_of_u32 (hw _ (List.getElem_mem _))).1
      have h3 : (⟨b, off, none⟩ : Addr).add i = ⟨b, off + i, none⟩ := by simp [Addr.add]
      rw [h3] at h1
      rw [h1]
      have e : ((zs.take len).map Int.toNat)[i]?.getD 0 = (zs[i]'(by omega)).toNat := by
        rw [List.getElem?_map, List.getElem?_take, if_pos (by omega), List.getElem?_eq_getElem (by omega)]; rfl
      rw [e, List.getD_eq_getElem?_getD, List.getElem?_eq_getElem (by omega)]
      simp only [Option.getD_some, Option.some.injEq, Value.int.injEq, true_and]
      omega

set_option maxRecDepth 20000 in
/-- A number that came in: its sign, its limbs, where they lie; by the row's own reach they are not too many. -/
theorem open_whole {H : Type} {enc : TypeId × Value → H} {W : World} {base : Nat} {v : Value} {d : DataW H} {p : List MemPlace} (hval : Value.okWide Tryz.prog W .any base 43 v) (h : DataW.Trod enc Tryz.prog W 0 (fun _ => true) true 43 v d p)
    (hs : ∀ n ∈ d.weights Tryz.prog 43, n ≤ reachBytes) :
    ∃ neg ao cap L, v = .agg #[.bool neg, .slice ao L.length cap] ∧ LimbsAt W ao cap L ∧ L.length ≤ 35184372087808 := by
  obtain ⟨c0, c1, y0, y1, m, rfl, rfl, rfl, hy0, hy1⟩ := open_agg2 Tryz.underlying43 (by kernel_rfl) Tryz.cellsW hval h
  obtain ⟨neg, e0, rfl⟩ := DataW.trod_bool Tryz.underlying4 hy0
  simp at e0
  subst e0
  rcases open_ints Tryz.underlying41 Tryz.underlying87 Tryz.cellsU hy1 with ⟨hcs, _⟩ | ⟨a, len, cap, zs, hcs, _, hl, hm, hz, rfl, hcell, hwz⟩
  · simp at hcs
    subst hcs
    exact ⟨neg, none, 0, [], rfl, LimbsAt.nil _ _ _, by simp⟩
  · simp at hcs
    subst hcs
    obtain ⟨h1, h2⟩ := limbs_of_ints hl (by simpa using hz) hcell hwz
    refine ⟨neg, some a, cap, _, by rw [h2], h1, ?_⟩
    have hk := hs ((zs.length) * 4) (by
      simp only [DataW.weights, Tryz.underlying43, DataW.weightsEach, List.map, Tryz.underlying41, List.nil_append, List.append_nil, List.mem_cons, Tryz.bytesU, lits, List.length_map, List.length_take, List.length_drop]
      left
      omega)
    simp only [reachBytes] at hk
    rw [h2]
    have : zs.length = cap := by simpa using hz
    omega

end Go.Proofs.YtlbggedahpnjgaaGreatDoor

/- The bounds of an int or int64 that came in. -/
namespace Go.Proofs.YtlbggedahpnjgaaGreatDoor

theorem bounds_of_i64 {x : Int} (h : (Lit.int .i64 x).wf = true) : -9223372036854775808 ≤ x ∧ x ≤ 9223372036854775807 := by
  simp [Lit.wf, IntKind.min, IntKind.max, IntKind.signed, IntKind.bits] at h
  omega

end Go.Proofs.YtlbggedahpnjgaaGreatDoor

/- A dyadic number that came in, opened; the library's table, as the row lays it. -/
namespace Go.Proofs.YtlbggedahpnjgaaGreatDoor
open Go.ChangeShapes Go.WideShapes Go.ChangeAt Go.RowKit Go.Joins

theorem Tryz.cellsD : Tryz.prog.cellsOf 45 = 3 := by kernel_rfl
theorem Tryz.cellsI : Tryz.prog.cellsOf 3 = 1 := by kernel_rfl
theorem Tryz.cellsB : Tryz.prog.cellsOf 4 = 1 := by kernel_rfl
theorem Tryz.cellsS : Tryz.prog.cellsOf 41 = 1 := by kernel_rfl

theorem Tryz.tabName : Tryz.prog.globalNamed "math/bits.deBruijn32tab" = some 1 := by kernel_rfl
theorem Tryz.tabType : (Tryz.prog.globals[1]?).map (·.type) = some 144 := by kernel_rfl
theorem Tryz.tabCells : Tryz.prog.cellsOf 144 = 32 := by kernel_rfl
theorem Tryz.byteCells : Tryz.prog.cellsOf 5 = 1 := by kernel_rfl

theorem tab_getD : ∀ j, j < Lib.deBruijn32tab.length → (List.map Int.ofNat Lib.deBruijn32tab).getD j 0 = ((Lib.deBruijn32tab.getD j 0 : Nat) : Int) := by decide

/-- What the rows' list gives: the table's cells. -/
theorem tab_of_laid {W : World} (h : laidMetH Tryz.prog [("math/bits.deBruijn32tab", Rows.laid_math_bits_deBruijn32tab)] W) : Tab W := by
  have ht := Lib.tabIs_of_head (zs := Lib.deBruijn32tab.map Int.ofNat) (rest := []) Tryz.tabName Tryz.tabType Tryz.underlying144 Tryz.underlying5 Tryz.byteCells Tryz.tabCells h
  intro j hj
  have := ht.cell Tryz.tabName j (by simpa using hj)
  rw [this]
  congr 2
  exact tab_getD j hj

set_option maxRecDepth 20000 in
/-- A dyadic number that came in. -/
theorem open_dyadic {H : Type} {enc : TypeId × Value → H} {W : World} {base : Nat} {v : Value} {d : DataW H} {p : List MemPlace} (hval : Value.okWide Tryz.prog W .any base 45 v) (h : DataW.Trod enc Tryz.prog W 0 (fun _ => true) true 45 v d p)
    (hs : ∀ n ∈ d.weights Tryz.prog 45, n ≤ reachBytes) :
    ∃ (neg : Bool) (ao : Option Addr) (cap : Nat) (L : List Nat) (e : Int), v = .agg #[.bool neg, .slice ao L.length cap, .int .i64 e] ∧ LimbsAt W ao cap L ∧ L.length ≤ 35184372087808 ∧ (-9223372036854775808 ≤ e ∧ e ≤ 9223372036854775807) := by
  obtain ⟨cs, rfl, hsz⟩ := okWide_struct Tryz.underlying45 hval
  obtain ⟨c0, c1, c2, rfl⟩ := array3 (hsz.trans Tryz.cellsD)
  obtain ⟨fuel, hf⟩ := h
  obtain ⟨y0, y1, n, hx, _, h0, h1⟩ := trod_struct2 Tryz.underlying45 hf
  simp only [Prod.mk.injEq] at hx
  obtain ⟨rfl, rfl⟩ := hx
  have h0' : DataW.trod enc Tryz.prog W 0 (fun _ => true) true n 43 [c0, c1] = some y0 := by simpa [Value.cells, Tryz.cellsW] using h0
  have h1' : DataW.trod enc Tryz.prog W 0 (fun _ => true) true n 3 [c2] = some y1 := by simpa [Value.cells, Tryz.cellsI] using h1
  clear h0 h1
  obtain ⟨e, e1, e2, we⟩ := DataW.trod_int Tryz.underlying3 h1'
  simp at e1
  subst e1
  obtain ⟨z0, z1, m, hz, _, g0, g1⟩ := trod_struct2 Tryz.underlying43 h0'
  subst hz
  have g0' : DataW.trod enc Tryz.prog W 0 (fun _ => true) true m 4 [c0] = some z0 := by simpa [Tryz.cellsB] using g0
  have g1' : DataW.trod enc Tryz.prog W 0 (fun _ => true) true m 41 [c1] = some z1 := by simpa [Tryz.cellsS] using g1
  clear g0 g1
  obtain ⟨neg, e0, _⟩ := DataW.trod_bool Tryz.underlying4 g0'
  simp at e0
  subst e0
  have be := bounds_of_i64 we
  rcases open_ints Tryz.underlying41 Tryz.underlying87 Tryz.cellsU g1' with ⟨hcs, _⟩ | ⟨a, len, cap, zs, hcs, _, hl, hm, hzz, rfl, hcell, hwz⟩
  · simp at hcs
    subst hcs
    exact ⟨neg, none, 0, [], e, rfl, LimbsAt.nil _ _ _, by simp, be⟩
  · simp at hcs
    subst hcs
    obtain ⟨l1, l2⟩ := limbs_of_ints hl (by simpa using hzz) hcell hwz
    refine ⟨neg, some a, cap, _, e, by rw [l2], l1, ?_, be⟩
    have hk := hs ((zs.length) * 4) (by
      simp only [DataW.weights, Tryz.underlying45, Tryz.underlying43, DataW.weightsEach, List.map, Tryz.underlying41, List.append_nil, List.mem_cons, List.mem_append, Tryz.bytesU, lits, List.length_map, List.length_take, List.length_drop]
      refine .inl (.inr (.inl ?_))
      have : zs.length = cap := by simpa using hzz
      omega)
    simp only [reachBytes] at hk
    rw [l2]
    have : zs.length = cap := by simpa using hzz
    omega

end Go.Proofs.YtlbggedahpnjgaaGreatDoor

/- Bits that came in. -/
namespace Go.Proofs.YtlbggedahpnjgaaGreatDoor
open Go.ChangeShapes Go.WideShapes Go.ChangeAt Go.RowKit

theorem nat_of_u64 {n : Int} (h : (Lit.int .u64 n).wf = true) : ∃ m : Nat, n = (m : Int) ∧ m < 18446744073709551616 := by
  simp [Lit.wf, IntKind.min, IntKind.max, IntKind.signed, IntKind.bits] at h
  exact ⟨n.toNat, by omega, by omega⟩

end Go.Proofs.YtlbggedahpnjgaaGreatDoor

