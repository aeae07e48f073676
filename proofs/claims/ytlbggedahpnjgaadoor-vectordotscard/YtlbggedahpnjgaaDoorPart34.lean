/- Part 34 of the texts. -/
import Derived.Test.YtlbggedahpnjgaaDoorPart33
import Derived.Deep.RegionHeld3
import Derived.Test.YtlbggedahpnjgaaDoorChecked
import Derived.Test.YtlbggedahpnjgaaDoorPart02
import Derived.ProofKit
import Derived.SizedLaws
import Derived.Lib.SmallJoins
import Derived.Test.YtlbggedahpnjgaaDoorRows
import Derived.Test.YtlbggedahpnjgaaDoorPart12
import Derived.Lib.LaidTab
import Derived.OpenShut
import Derived.Deep.DeepHandedRow
/- The reference's Dot; the law VectorDots, walked. -/
namespace Go.Proofs.YtlbggedahpnjgaaDoor
open Go.RowKit
attribute [local go_sem ↓] Go.wp_at_zero Go.wp_at_succ

set_option maxRecDepth 20000 in
set_option maxHeartbeats 4000000 in
theorem r9dot_any (ao bo : Option Addr) (c d : Nat) (I J : List Int) (w : World) (hI : BitsAt w ao c I) (hJ : BitsAt w bo d J) (hl : I.length = J.length) (hn : I.length ≤ 35184372088830) :
    Calls Tryd.prog 7 #[.slice ao I.length c, .slice bo J.length d] w fun e w' => e = .returned (.int .u64 (dtK I J I.length : Nat)) ∧ Below w.heap.size w w' := by
  have HI := hide hI; have HJ := hide hJ
  obtain ⟨n, hnn⟩ : ∃ n, I.length = n := ⟨_, rfl⟩
  rw [← hl, hnn]
  rw [hnn] at hn hl
  have HN := hide hnn; have HM := hide hl.symm
  clear hI hJ hnn hl
  go_enter Tryd.func7, Tryd.ntmps7
  go_wp2_with fail
  go_loopw [5, 6] (fun t i wr => ∃ k : Nat, k ≤ n ∧ i = .int .i64 k ∧ t = .int .u64 (dtK I J k : Nat) ∧ Hid (Below w.heap.size w wr)) (fun _ i _ => n - (intOf i).toNat)
  case atStart => exact ⟨0, Nat.zero_le _, rfl, rfl, Below.refl _ _⟩
  case round =>
    obtain ⟨k, hk, rfl, rfl, hB⟩ := hrel
    by_cases hlt : k < n
    · have hkI : (k : Int) < (n : Int) := by omega
      obtain ⟨b1, o1, hao, hb1, hc1⟩ := ((unhide HI).below hB.out).ne (by rw [unhide HN]; omega)
      obtain ⟨b2, o2, hbo, hb2, hc2⟩ := ((unhide HJ).below hB.out).ne (by rw [unhide HM]; omega)
      have cx := hc1 k (by rw [unhide HN]; exact hlt)
      have cy := hc2 k (by rw [unhide HM]; exact hlt)
      have C1 := hide (fun w' => r9mul_any (atB I k) (atB J k) w' ((unhide HI).lt k) ((unhide HJ).lt k))
      have C2 := hide (fun w' => r9add_any (dtK I J k) (mV (atB I k) (atB J k)) w' (dtK_lt I J k) (mV_lt _ _))
      have eV : Hid (dtK I J (k + 1) = aV (dtK I J k) (mV (atB I k) (atB J k))) := rfl
      subst hao
      subst hbo
      clear hc1 hc2
      generalize aV (dtK I J k) (mV (atB I k) (atB J k)) = o at *
      generalize mV (atB I k) (atB J k) = p at *
      generalize atB I k = x at *
      generalize atB J k = y at *
      generalize dtK I J k = s at *
      have HK := hide (fun w' (h : Below wr.heap.size wr w') => (show Below wr.heap.size wr w' ∧ w'.cell? ⟨b1, o1 + k, none⟩ = some (.int .u64 (x : Nat)) ∧ w'.cell? ⟨b2, o2 + k, none⟩ = some (.int .u64 (y : Nat)) from ⟨h, cell_keep cx h, cell_keep cy h⟩))
      clear cx cy
      go_wp2_with fail
      go_region_held3 (fun w' => Below wr.heap.size wr w' ∧ w'.cell? ⟨b1, o1 + k, none⟩ = some (.int .u64 (x : Nat)) ∧ w'.cell? ⟨b2, o2 + k, none⟩ = some (.int .u64 (y : Nat)))
        (first | exact unhide HK _ (Below.refl _ _).drew | exact unhide HK _ (by assumption) | fail "KK")
        (first | (go_at_call 12; refine (unhide C1 _).mono ?_; rintro e w1 ⟨rfl, hb3⟩; have hB1 : Below wr.heap.size wr w1 := Below.trans (And.left (by assumption)) (hb3.mono (Below.size (And.left (by assumption)))); clear hb3) | (go_at_call 11; refine (unhide C2 _).mono ?_; rintro e w2 ⟨rfl, hb4⟩; have hB2 : Below wr.heap.size wr w2 := Below.trans (And.left (by assumption)) (hb4.mono (Below.size (And.left (by assumption)))); clear hb4) | fail "NO ARM")
      have B2 : Hid (Below w.heap.size w _) := hB.out.trans (Below.mono (And.left (by assumption)) hB.out.size)
      go_wp2_with fail
      go_round
      case rel => exact ⟨k + 1, by omega, by go_num, by rw [eV.out], B2⟩
      case measure => simp [intOf]; omega
    · have hkk : k = n := by omega
      subst hkk
      go_wp2_with fail
      exact bodyPost_ret (v := .int .u64 (dtK I J k : Nat)) (by simp [results, Tryd.results7, go_sem]) rfl ⟨rfl, hB.out⟩

set_option maxRecDepth 20000 in
set_option maxHeartbeats 4000000 in
theorem vectorDots_of (ao bo : Option Addr) (n m c d x o : Nat) (f : Int) (w : World) (way : (f = 0 ∧ x = o) ∨ (f = 3 ∧ x = 0))
    (C1 : Calls Tryd.prog 4 #[.slice ao n c, .slice bo m d] w fun e w'' => e = .returned (.tuple #[.int .u64 (x : Nat), .int .i64 f]) ∧ Below w.heap.size w w'')
    (C2 : ∀ w', Calls Tryd.prog 5 #[.slice ao n c, .slice bo m d] w' fun e w'' => e = .returned (.int .i64 f) ∧ w' = w'')
    (C3 : f = 0 → ∀ w', Below w.heap.size w w' → Calls Tryd.prog 7 #[.slice ao n c, .slice bo m d] w' fun e w'' => e = .returned (.int .u64 (o : Nat)) ∧ Below w'.heap.size w' w'')
    (C8 : ∀ w', Below w.heap.size w w' → Calls Tryd.prog 6 #[] w' fun e w'' => e = .returned (.bool true) ∧ Below w'.heap.size w' w'') :
    Calls Tryd.prog 3 #[.slice ao n c, .slice bo m d] w fun r w' => r = .returned (.bool true) ∧ Below w.heap.size w w' := by
  rcases way with ⟨rfl, rfl⟩ | ⟨rfl, rfl⟩
  · have K1 := hide C1; have K2 := hide C2; have K3 := hide (C3 rfl); have K8 := hide C8
    clear C1 C2 C3 C8
    go_enter Tryd.func3, Tryd.ntmps3
    go_wp2_with fail
    refine Calls.mono (unhide K1) ?_
    rintro e w1 ⟨rfl, hb1⟩
    have B := hide hb1
    clear K1 hb1
    go_wp2_with fail
    refine (unhide K2 _).mono ?_
    rintro e w2 ⟨rfl, rfl⟩
    clear K2
    go_wp2_with fail
    refine (unhide K3 _ (unhide B)).mono ?_
    rintro e w3 ⟨rfl, hb1⟩
    have B := hide ((unhide B).trans (hb1.mono (unhide B).size))
    clear K3 hb1
    go_wp2_with fail
    refine (unhide K8 _ (unhide B)).mono ?_
    rintro e w4 ⟨rfl, hb1⟩
    have B := hide ((unhide B).trans (hb1.mono (unhide B).size))
    clear K8 hb1
    go_wp2
    go_ret
    exact ⟨rfl, unhide B⟩
  · have K1 := hide C1; have K2 := hide C2; have K8 := hide C8
    clear C1 C2 C3 C8
    go_enter Tryd.func3, Tryd.ntmps3
    go_wp2_with fail
    refine Calls.mono (unhide K1) ?_
    rintro e w1 ⟨rfl, hb1⟩
    have B := hide hb1
    clear K1 hb1
    go_wp2_with fail
    refine (unhide K2 _).mono ?_
    rintro e w2 ⟨rfl, rfl⟩
    clear K2
    go_wp2_with fail
    refine (unhide K8 _ (unhide B)).mono ?_
    rintro e w4 ⟨rfl, hb1⟩
    have B := hide ((unhide B).trans (hb1.mono (unhide B).size))
    clear K8 hb1
    go_wp2
    go_ret
    exact ⟨rfl, unhide B⟩

theorem vectorDots_walk (ao : Option Addr) (c : Nat) (I : List Int) (bo : Option Addr) (d : Nat) (J : List Int) (w : World) (hI : BitsAt w ao c I) (hn : I.length ≤ 35184372088830) (hJ : BitsAt w bo d J) (_hm : J.length ≤ 35184372088830) (hT : Tab w) :
    Calls Tryd.prog 3 #[.slice ao I.length c, .slice bo J.length d] w fun r w' => r = .returned (.bool true) ∧ Below w.heap.size w w' := by
  have D1 := vDot_any ao bo c d I J w hI hJ hT
  have C2 := fun w' => lfits_any ao bo I.length J.length c d w'
  have C8 := fun w' (hb : Below w.heap.size w w') => awake9_any w' (hT.all hb)
  by_cases hg : I.length ≤ 64 ∧ I.length = J.length
  · have hb : goB I J = true := decide_eq_true hg
    rw [if_pos hb, if_pos hb] at D1
    rw [if_pos hg] at C2
    exact vectorDots_of ao bo _ _ c d _ _ 0 w (.inl ⟨rfl, rfl⟩) D1 C2 (fun _ w' hb => r9dot_any ao bo c d I J w' (hI.below hb) (hJ.below hb) hg.2 hn) C8
  · have hb : ¬ goB I J = true := fun h => hg (of_decide_eq_true h)
    rw [if_neg hb, if_neg hb] at D1
    rw [if_neg hg] at C2
    exact vectorDots_of ao bo _ _ c d _ 0 3 w (.inr ⟨rfl, rfl⟩) D1 C2 (fun h => by omega) C8

end Go.Proofs.YtlbggedahpnjgaaDoor

/- A struct of a sign and limbs that came in, opened. -/
namespace Go.Proofs.YtlbggedahpnjgaaDoor
open Go.ChangeShapes Go.WideShapes Go.ChangeAt Go.RowKit Go.Joins

theorem Tryd.own : ownKnob Tryd.prog.godebug = none := by kernel_rfl
theorem Tryd.laidOut : laidOutB Tryd.prog = true := by kernel_rfl
theorem Tryd.cellsW : Tryd.prog.cellsOf 51 = 2 := by kernel_rfl
theorem Tryd.cellsU : Tryd.prog.cellsOf 87 = 1 := by kernel_rfl
theorem Tryd.bytesU : Tryd.prog.bytesOf 87 = 4 := by kernel_rfl

theorem bounds_of_u32 {x : Int} (h : (Lit.int .u32 x).wf = true) : 0 ≤ x ∧ x < 4294967296 := by
  simp [Lit.wf, IntKind.min, IntKind.max, IntKind.signed, IntKind.bits] at h
  omega

theorem limbs_of_ints {W : World} {a : Addr} {len cap : Nat} {zs : List Int} (hl : len ≤ cap) (hz : zs.length = cap) (hc : ∀ i, i < zs.length → W.cell? (a.add i) = some (.int .u32 (zs.getD i 0))) (hw : ∀ n ∈ zs, (Lit.int .u32 n).wf = true) :
    LimbsAt W (some a) cap ((zs.take len).map Int.toNat) ∧ ((zs.take len).map Int.toNat).length = len := by
  have hlen : ((zs.take len).map Int.toNat).length = len := by simp; omega
  refine ⟨⟨by omega, ?_, ?_⟩, hlen⟩
  · intro x hx
    obtain ⟨y, hy, rfl⟩ := List.mem_map.1 hx
    have := bounds_of_u32 (hw y (List.mem_of_mem_take hy))
    omega
  · rcases Nat.eq_zero_or_pos len with rfl | hp
    · left; simp
    · right
      obtain ⟨b, off, spot⟩ := a
      have h0 := hc 0 (by omega)
      have hspot : spot = none := by simpa [Addr.add] using World.cell?_spot h0
      subst hspot
      have hb : b < W.heap.size := by
        have := World.block_lt_of_cell? W _ h0
        simpa [Addr.add] using this
      refine ⟨b, off, rfl, hb, fun i hi => ?_⟩
      have h1 := hc i (by omega)
      have h2 : (0 : Int) ≤ zs[i]'(by omega) := (bounds_of_u32 (hw _ (List.getElem_mem _))).1
      have h3 : (⟨b, off, none⟩ : Addr).add i = ⟨b, off + i, none⟩ := by simp [Addr.add]
      rw [h3] at h1
      rw [h1]
      have e : ((zs.take len).map Int.toNat)[i]?.getD 0 = (zs[i]'(by omega)).toNat := by
        rw [List.getElem?_map, List.getElem?_take, if_pos (by omega), List.getElem?_eq_getElem (by omega)]; rfl
      rw [e, List.getD_eq_getElem?_getD, List.getElem?_eq_getElem (by omega)]
      simp only [Option.getD_some, Option.some.injEq, Value.int.injEq, true_and]
      omega

set_option maxRecDepth 20000 in
/-- A number that came in: its sign, its limbs, where they lie; by the row's own reach they are not too many. -/
theorem open_whole {H : Type} {enc : TypeId × Value → H} {W : World} {base : Nat} {v : Value} {d : DataW H} {p : List MemPlace} (hval : Value.okWide Tryd.prog W .any base 51 v) (h : DataW.Trod enc Tryd.prog W 0 (fun _ => true) true 51 v d p)
    (hs : ∀ n ∈ d.weights Tryd.prog 51, n ≤ reachBytes) :
    ∃ neg ao cap L, v = .agg #[.bool neg, .slice ao L.length cap] ∧ LimbsAt W ao cap L ∧ L.length ≤ 35184372087808 := by
  obtain ⟨c0, c1, y0, y1, m, rfl, rfl, rfl, hy0, hy1⟩ := open_agg2 Tryd.underlying51 (by kernel_rfl) Tryd.cellsW hval h
  obtain ⟨neg, e0, rfl⟩ := DataW.trod_bool Tryd.underlying4 hy0
  simp at e0
  subst e0
  rcases open_ints Tryd.underlying49 Tryd.underlying87 Tryd.cellsU hy1 with ⟨hcs, _⟩ | ⟨a, len, cap, zs, hcs, _, hl, hm, hz, rfl, hcell, hwz⟩
  · simp at hcs
    subst hcs
    exact ⟨neg, none, 0, [], rfl, LimbsAt.nil _ _ _, by simp⟩
  · simp at hcs
    subst hcs
    obtain ⟨h1, h2⟩ := limbs_of_ints hl (by simpa using hz) hcell hwz
    refine ⟨neg, some a, cap, _, by rw [h2], h1, ?_⟩
    have hk := hs ((zs.length) * 4) (by
      simp only [DataW.weights, Tryd.underlying51, DataW.weightsEach, List.map, Tryd.underlying49, List.nil_append, List.append_nil, List.mem_cons, Tryd.bytesU, lits, List.length_map, List.length_take, List.length_drop]
      left
      omega)
    simp only [reachBytes] at hk
    rw [h2]
    have : zs.length = cap := by simpa using hz
    omega

end Go.Proofs.YtlbggedahpnjgaaDoor

/- The bounds of an int or int64 that came in. -/
namespace Go.Proofs.YtlbggedahpnjgaaDoor

theorem bounds_of_i64 {x : Int} (h : (Lit.int .i64 x).wf = true) : -9223372036854775808 ≤ x ∧ x ≤ 9223372036854775807 := by
  simp [Lit.wf, IntKind.min, IntKind.max, IntKind.signed, IntKind.bits] at h
  omega

end Go.Proofs.YtlbggedahpnjgaaDoor

/- A dyadic number that came in, opened; the library's table, as the row lays it. -/
namespace Go.Proofs.YtlbggedahpnjgaaDoor
open Go.ChangeShapes Go.WideShapes Go.ChangeAt Go.RowKit Go.Joins

theorem Tryd.cellsD : Tryd.prog.cellsOf 53 = 3 := by kernel_rfl
theorem Tryd.cellsI : Tryd.prog.cellsOf 3 = 1 := by kernel_rfl
theorem Tryd.cellsB : Tryd.prog.cellsOf 4 = 1 := by kernel_rfl
theorem Tryd.cellsS : Tryd.prog.cellsOf 49 = 1 := by kernel_rfl

theorem Tryd.tabName : Tryd.prog.globalNamed "math/bits.deBruijn32tab" = some 1 := by kernel_rfl
theorem Tryd.tabType : (Tryd.prog.globals[1]?).map (·.type) = some 109 := by kernel_rfl
theorem Tryd.tabCells : Tryd.prog.cellsOf 109 = 32 := by kernel_rfl
theorem Tryd.byteCells : Tryd.prog.cellsOf 5 = 1 := by kernel_rfl

theorem tab_getD : ∀ j, j < Lib.deBruijn32tab.length → (List.map Int.ofNat Lib.deBruijn32tab).getD j 0 = ((Lib.deBruijn32tab.getD j 0 : Nat) : Int) := by decide

/-- What the rows' list gives: the table's cells. -/
theorem tab_of_laid {W : World} (h : laidMetH Tryd.prog [("math/bits.deBruijn32tab", Rows.laid_math_bits_deBruijn32tab)] W) : Tab W := by
  have ht := Lib.tabIs_of_head (zs := Lib.deBruijn32tab.map Int.ofNat) (rest := []) Tryd.tabName Tryd.tabType Tryd.underlying109 Tryd.underlying5 Tryd.byteCells Tryd.tabCells h
  intro j hj
  have := ht.cell Tryd.tabName j (by simpa using hj)
  rw [this]
  congr 2
  exact tab_getD j hj

set_option maxRecDepth 20000 in
/-- A dyadic number that came in. -/
theorem open_dyadic {H : Type} {enc : TypeId × Value → H} {W : World} {base : Nat} {v : Value} {d : DataW H} {p : List MemPlace} (hval : Value.okWide Tryd.prog W .any base 53 v) (h : DataW.Trod enc Tryd.prog W 0 (fun _ => true) true 53 v d p)
    (hs : ∀ n ∈ d.weights Tryd.prog 53, n ≤ reachBytes) :
    ∃ (neg : Bool) (ao : Option Addr) (cap : Nat) (L : List Nat) (e : Int), v = .agg #[.bool neg, .slice ao L.length cap, .int .i64 e] ∧ LimbsAt W ao cap L ∧ L.length ≤ 35184372087808 ∧ (-9223372036854775808 ≤ e ∧ e ≤ 9223372036854775807) := by
  obtain ⟨cs, rfl, hsz⟩ := okWide_struct Tryd.underlying53 hval
  obtain ⟨c0, c1, c2, rfl⟩ := array3 (hsz.trans Tryd.cellsD)
  obtain ⟨fuel, hf⟩ := h
  obtain ⟨y0, y1, n, hx, _, h0, h1⟩ := trod_struct2 Tryd.underlying53 hf
  simp only [Prod.mk.injEq] at hx
  obtain ⟨rfl, rfl⟩ := hx
  have h0' : DataW.trod enc Tryd.prog W 0 (fun _ => true) true n 51 [c0, c1] = some y0 := by simpa [Value.cells, Tryd.cellsW] using h0
  have h1' : DataW.trod enc Tryd.prog W 0 (fun _ => true) true n 3 [c2] = some y1 := by simpa [Value.cells, Tryd.cellsI] using h1
  clear h0 h1
  obtain ⟨e, e1, e2, we⟩ := DataW.trod_int Tryd.underlying3 h1'
  simp at e1
  subst e1
  obtain ⟨z0, z1, m, hz, _, g0, g1⟩ := trod_struct2 Tryd.underlying51 h0'
  subst hz
  have g0' : DataW.trod enc Tryd.prog W 0 (fun _ => true) true m 4 [c0] = some z0 := by simpa [Tryd.cellsB] using g0
  have g1' : DataW.trod enc Tryd.prog W 0 (fun _ => true) true m 49 [c1] = some z1 := by simpa [Tryd.cellsS] using g1
  clear g0 g1
  obtain ⟨neg, e0, _⟩ := DataW.trod_bool Tryd.underlying4 g0'
  simp at e0
  subst e0
  have be := bounds_of_i64 we
  rcases open_ints Tryd.underlying49 Tryd.underlying87 Tryd.cellsU g1' with ⟨hcs, _⟩ | ⟨a, len, cap, zs, hcs, _, hl, hm, hzz, rfl, hcell, hwz⟩
  · simp at hcs
    subst hcs
    exact ⟨neg, none, 0, [], e, rfl, LimbsAt.nil _ _ _, by simp, be⟩
  · simp at hcs
    subst hcs
    obtain ⟨l1, l2⟩ := limbs_of_ints hl (by simpa using hzz) hcell hwz
    refine ⟨neg, some a, cap, _, e, by rw [l2], l1, ?_, be⟩
    have hk := hs ((zs.length) * 4) (by
      simp only [DataW.weights, Tryd.underlying53, Tryd.underlying51, DataW.weightsEach, List.map, Tryd.underlying49, List.append_nil, List.mem_cons, List.mem_append, Tryd.bytesU, lits, List.length_map, List.length_take, List.length_drop]
      refine .inl (.inr (.inl ?_))
      have : zs.length = cap := by simpa using hzz
      omega)
    simp only [reachBytes] at hk
    rw [l2]
    have : zs.length = cap := by simpa using hzz
    omega

end Go.Proofs.YtlbggedahpnjgaaDoor

/- Bits that came in. -/
namespace Go.Proofs.YtlbggedahpnjgaaDoor
open Go.ChangeShapes Go.WideShapes Go.ChangeAt Go.RowKit

theorem nat_of_u64 {n : Int} (h : (Lit.int .u64 n).wf = true) : ∃ m : Nat, n = (m : Int) ∧ m < 18446744073709551616 := by
  simp [Lit.wf, IntKind.min, IntKind.max, IntKind.signed, IntKind.bits] at h
  exact ⟨n.toNat, by omega, by omega⟩

end Go.Proofs.YtlbggedahpnjgaaDoor

