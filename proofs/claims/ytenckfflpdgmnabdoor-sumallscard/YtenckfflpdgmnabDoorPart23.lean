/- Part 23 of the texts. -/
import Derived.Test.YtenckfflpdgmnabDoorPart22
import Derived.Test.YtenckfflpdgmnabDoorChecked
import Derived.Test.YtenckfflpdgmnabDoorPart02
import Derived.ProofKit
import Derived.SizedLaws
import Derived.Lib.SmallJoins
import Derived.Test.YtenckfflpdgmnabDoorRows
import Derived.Test.YtenckfflpdgmnabDoorPart12
import Derived.Lib.LaidTab
import Derived.OpenShut
import Derived.Deep.DeepHandedRow
/- A list of bits; the sum of all: contracts of sum's All and the reference's. -/
namespace Go.Proofs.YtenckfflpdgmnabDoor
open Go.RowKit

/-- The bits I lie at ao. -/
def BitsAt (w : World) (ao : Option Addr) (cap : Nat) (I : List Int) : Prop :=
  I.length ≤ cap ∧ (∀ x ∈ I, 0 ≤ x ∧ x ≤ 18446744073709551615) ∧ (I = [] ∨ ∃ b off, ao = some ⟨b, off, none⟩ ∧ b < w.heap.size ∧ ∀ i, i < I.length → w.cell? ⟨b, off + i, none⟩ = some (.int .u64 (I[i]?.getD 0)))

theorem BitsAt.below {w w' : World} {ao : Option Addr} {cap : Nat} {I : List Int} (h : BitsAt w ao cap I) (hb : Below w.heap.size w w') : BitsAt w' ao cap I := by
  refine ⟨h.1, h.2.1, ?_⟩
  rcases h.2.2 with h | ⟨b, off, h1, h2, h3⟩
  · exact .inl h
  · refine .inr ⟨b, off, h1, Nat.lt_of_lt_of_le h2 hb.size, fun i hi => ?_⟩
    rw [hb.cell (p := ⟨b, off + i, none⟩) h2]
    exact h3 i hi
def atB (I : List Int) (j : Nat) : Nat := (I[j]?.getD 0).toNat
theorem BitsAt.wf {w : World} {ao : Option Addr} {cap : Nat} {I : List Int} (h : BitsAt w ao cap I) (j : Nat) : I[j]?.getD 0 = (atB I j : Int) ∧ atB I j < 18446744073709551616 := by
  unfold atB
  by_cases hi : j < I.length
  · have := h.2.1 _ (List.getElem_mem hi)
    rw [List.getElem?_eq_getElem hi]
    simp only [Option.getD_some]
    omega
  · rw [List.getElem?_eq_none (by omega)]; simp
theorem BitsAt.ne {w : World} {ao : Option Addr} {cap : Nat} {I : List Int} (h : BitsAt w ao cap I) (h0 : 0 < I.length) : ∃ b off, ao = some ⟨b, off, none⟩ ∧ b < w.heap.size ∧ ∀ i, i < I.length → w.cell? ⟨b, off + i, none⟩ = some (.int .u64 (atB I i : Int)) := by
  rcases h.2.2 with e | ⟨b, off, e1, e2, e3⟩
  · rw [e] at h0; simp at h0
  · exact ⟨b, off, e1, e2, fun i hi => by rw [e3 i hi, (h.wf i).1]⟩

/-- The sum of the first k, and all flags. -/
def allV (I : List Int) : Nat → Nat
  | 0 => 0
  | k + 1 => aV (allV I k) (atB I k)
def allF (I : List Int) : Nat → Int
  | 0 => 0
  | k + 1 => bits .or .u8 (allF I k) (aF (allV I k) (atB I k))
theorem allV_lt {w : World} {ao : Option Addr} {cap : Nat} {I : List Int} (h : BitsAt w ao cap I) (k : Nat) : allV I k < 18446744073709551616 := by
  induction k with
  | zero => show 0 < 18446744073709551616; omega
  | succ k ih => exact aV_lt _ _ ih (h.wf k).2

end Go.Proofs.YtenckfflpdgmnabDoor

/- Contracts of sum's All and the reference's; the law SumAlls, walked. -/
namespace Go.Proofs.YtenckfflpdgmnabDoor
open Go.RowKit

set_option maxRecDepth 20000 in
set_option maxHeartbeats 4000000 in
theorem sall_any (ao : Option Addr) (cap : Nat) (I : List Int) (w : World) (h : BitsAt w ao cap I) (hl : I.length ≤ 35184372088830) (hT : Tab w) :
    Calls Tryd.prog 5 #[.slice ao I.length cap] w fun e w' => e = .returned (.tuple #[.int .u64 (allV I I.length : Nat), .int .u8 (allF I I.length)]) ∧ Below w.heap.size w w' := by
  have HA := hide h
  have HW := hide h.wf; have HV := hide (allV_lt h); have HT := hide hT
  clear h hT
  go_enter Tryd.func5, Tryd.ntmps5
  go_wp2_with fail
  go_loopw [4, 5, 12] (fun t f i wr => ∃ k : Nat, k ≤ I.length ∧ i = .int .i64 k ∧ t = .int .u64 (allV I k : Nat) ∧ f = .int .u8 (allF I k) ∧ Hid (Below w.heap.size w wr)) (fun _ _ i _ => I.length - (intOf i).toNat)
  case atStart => exact ⟨0, Nat.zero_le _, rfl, rfl, rfl, Below.refl _ _⟩
  case round =>
    obtain ⟨k, hk, rfl, rfl, rfl, hB⟩ := hrel
    by_cases hlt : k < I.length
    · obtain ⟨b, off, hao, hb, hc⟩ := ((unhide HA).below hB.out).ne (by omega)
      have hck := hc k hlt
      have hkI : (k : Int) < (I.length : Int) := by omega
      have CA := hide (fun w' (t : Tab w') => sadd_any (allV I k) (atB I k) w' (unhide HV k) (unhide HW k).2 t)
      have eV : Hid (allV I (k + 1) = aV (allV I k) (atB I k)) := rfl
      have eF : Hid (allF I (k + 1) = bits .or .u8 (allF I k) (aF (allV I k) (atB I k))) := rfl
      subst hao
      clear hc
      generalize aV (allV I k) (atB I k) = o at *
      generalize aF (allV I k) (atB I k) = fl at *
      generalize atB I k = x at *
      generalize allV I k = tv at *
      generalize allF I k = tf at *
      go_wp2_with fail
      refine (unhide CA _ ((unhide HT).all hB.out)).mono ?_
      rintro e w2 ⟨rfl, hb2⟩
      have B2 : Hid (Below w.heap.size w w2) := hB.out.trans (hb2.mono hB.out.size)
      clear hb2 CA
      go_wp2_with fail
      go_round
      case rel => exact ⟨k + 1, by omega, by go_num, by rw [eV.out], by rw [eF.out], B2⟩
      case measure => simp [intOf]; omega
    · have hkk : k = I.length := by omega
      subst hkk
      go_wp2_with fail
      exact bodyPost_ret (v := .tuple #[.int .u64 (allV I I.length : Nat), .int .u8 (allF I I.length)]) (by simp [results, Tryd.results5, go_sem]) rfl ⟨rfl, hB.out⟩

set_option maxRecDepth 20000 in
set_option maxHeartbeats 4000000 in
theorem rall_any (ao : Option Addr) (cap : Nat) (I : List Int) (w : World) (h : BitsAt w ao cap I) (hl : I.length ≤ 35184372088830) (hT : Tab w) :
    Calls Tryd.prog 6 #[.slice ao I.length cap] w fun e w' => e = .returned (.tuple #[.int .u64 (allV I I.length : Nat), .int .u8 (allF I I.length)]) ∧ Below w.heap.size w w' := by
  have HA := hide h
  have HW := hide h.wf; have HV := hide (allV_lt h); have HT := hide hT
  clear h hT
  go_enter Tryd.func6, Tryd.ntmps6
  go_wp2_with fail
  go_loopw [4, 5, 6] (fun t f i wr => ∃ k : Nat, k ≤ I.length ∧ i = .int .i64 k ∧ t = .int .u64 (allV I k : Nat) ∧ f = .int .u8 (allF I k) ∧ Hid (Below w.heap.size w wr)) (fun _ _ i _ => I.length - (intOf i).toNat)
  case atStart => exact ⟨0, Nat.zero_le _, rfl, rfl, rfl, Below.refl _ _⟩
  case round =>
    obtain ⟨k, hk, rfl, rfl, rfl, hB⟩ := hrel
    by_cases hlt : k < I.length
    · obtain ⟨b, off, hao, hb, hc⟩ := ((unhide HA).below hB.out).ne (by omega)
      have hck := hc k hlt
      have hkI : (k : Int) < (I.length : Int) := by omega
      have CA := hide (fun w' (t : Tab w') => r5add_any (allV I k) (atB I k) w' (unhide HV k) (unhide HW k).2)
      have eV : Hid (allV I (k + 1) = aV (allV I k) (atB I k)) := rfl
      have eF : Hid (allF I (k + 1) = bits .or .u8 (allF I k) (aF (allV I k) (atB I k))) := rfl
      subst hao
      clear hc
      generalize aV (allV I k) (atB I k) = o at *
      generalize aF (allV I k) (atB I k) = fl at *
      generalize atB I k = x at *
      generalize allV I k = tv at *
      generalize allF I k = tf at *
      go_wp2_with fail
      refine (unhide CA _ ((unhide HT).all hB.out)).mono ?_
      rintro e w2 ⟨rfl, hb2⟩
      have B2 : Hid (Below w.heap.size w w2) := hB.out.trans (hb2.mono hB.out.size)
      clear hb2 CA
      go_wp2_with fail
      go_round
      case rel => exact ⟨k + 1, by omega, by go_num, by rw [eV.out], by rw [eF.out], B2⟩
      case measure => simp [intOf]; omega
    · have hkk : k = I.length := by omega
      subst hkk
      go_wp2_with fail
      exact bodyPost_ret (v := .tuple #[.int .u64 (allV I I.length : Nat), .int .u8 (allF I I.length)]) (by simp [results, Tryd.results6, go_sem]) rfl ⟨rfl, hB.out⟩

set_option maxRecDepth 20000 in
set_option maxHeartbeats 2000000 in
theorem sumAlls_long (ao : Option Addr) (cap n : Nat) (w : World) (h1 : (60 : Int) < (n : Int)) (hT : Tab w) :
    Calls Tryd.prog 3 #[.slice ao n cap] w fun r w' => r = .returned (.bool true) ∧ Below w.heap.size w w' := by
  have K3 := hide (awake5_any w hT)
  clear hT
  go_enter Tryd.func3, Tryd.ntmps3
  go_wp2_with fail
  refine Calls.mono (unhide K3) ?_
  rintro e w3 ⟨rfl, hb3⟩
  go_wp2
  go_ret
  exact ⟨rfl, hb3⟩

set_option maxRecDepth 20000 in
set_option maxHeartbeats 2000000 in
theorem sumAlls_walk (ao : Option Addr) (cap : Nat) (I : List Int) (w : World) (h : BitsAt w ao cap I) (hl : I.length ≤ 35184372088830) (hT : Tab w) :
    Calls Tryd.prog 3 #[.slice ao I.length cap] w fun r w' => r = .returned (.bool true) ∧ Below w.heap.size w w' := by
  by_cases h1 : (60 : Int) < (I.length : Int)
  · exact sumAlls_long ao cap I.length w h1 hT
  have K1 := hide (sall_any ao cap I w h hl hT)
  have K2 := hide (fun w' (hb : Below w.heap.size w w') => rall_any ao cap I w' (h.below hb) hl (hT.all hb))
  have K3 := hide (fun w' (hb : Below w.heap.size w w') => awake5_any w' (hT.all hb))
  clear h hT hl
  generalize allV I I.length = o at *
  generalize allF I I.length = fl at *
  generalize I.length = n at *
  go_enter Tryd.func3, Tryd.ntmps3
  go_wp2_with fail
  refine Calls.mono (unhide K1) ?_
  rintro e w1 ⟨rfl, hb1⟩
  have B1 := hide hb1
  clear hb1
  go_wp2_with fail
  refine (unhide K2 _ (unhide B1)).mono ?_
  rintro e w2 ⟨rfl, hb2⟩
  have B := hide ((unhide B1).trans (hb2.mono (unhide B1).size))
  clear hb2 K1 K2 B1
  go_wp2_with fail
  refine (unhide K3 _ (unhide B)).mono ?_
  rintro e w3 ⟨rfl, hb3⟩
  have B3 := hide ((unhide B).trans (hb3.mono (unhide B).size))
  clear hb3 K3 B
  go_wp2
  go_ret
  exact ⟨rfl, unhide B3⟩

end Go.Proofs.YtenckfflpdgmnabDoor

/- A struct of a sign and limbs that came in, opened. -/
namespace Go.Proofs.YtenckfflpdgmnabDoor
open Go.ChangeShapes Go.WideShapes Go.ChangeAt Go.RowKit Go.Joins

theorem Tryd.own : ownKnob Tryd.prog.godebug = none := by kernel_rfl
theorem Tryd.laidOut : laidOutB Tryd.prog = true := by kernel_rfl
theorem Tryd.cellsW : Tryd.prog.cellsOf 35 = 2 := by kernel_rfl
theorem Tryd.cellsU : Tryd.prog.cellsOf 72 = 1 := by kernel_rfl
theorem Tryd.bytesU : Tryd.prog.bytesOf 72 = 4 := by kernel_rfl

theorem bounds_of_u32 {x : Int} (h : (Lit.int .u32 x).wf = true) : 0 ≤ x ∧ x < 4294967296 := by
  simp [Lit.wf, IntKind.min, IntKind.max, IntKind.signed, IntKind.bits] at h
  omega

theorem limbs_of_ints {W : World} {a : Addr} {len cap : Nat} {zs : List Int} (hl : len ≤ cap) (hz : zs.length = cap) (hc : ∀ i, i < zs.length → W.cell? (a.add i) = some (.int .u32 (zs.getD i 0))) (hw : ∀ n ∈ zs, (Lit.int .u32 n).wf = true) :
    LimbsAt W (some a) cap ((zs.take len).map Int.toNat) ∧ ((zs.take len).map Int.toNat).length = len := by
  have hlen : ((zs.take len).map Int.toNat).length = len := by simp; omega
  refine ⟨⟨by omega, ?_, ?_⟩, hlen⟩
  · intro x hx
    obtain ⟨y, hy, rfl⟩ := List.mem_map.1 hx
    have := bounds_of_u32 (hw y (List.mem_of_mem_take hy))
    omega
  · rcases Nat.eq_zero_or_pos len with rfl | hp
    · left; simp
    · right
      obtain ⟨b, off, spot⟩ := a
      have h0 := hc 0 (by omega)
      have hspot : spot = none := by simpa [Addr.add] using World.cell?_spot h0
      subst hspot
      have hb : b < W.heap.size := by
        have := World.block_lt_of_cell? W _ h0
        simpa [Addr.add] using this
      refine ⟨b, off, rfl, hb, fun i hi => ?_⟩
      have h1 := hc i (by omega)
      have h2 : (0 : Int) ≤ zs[i]'(by omega) := (bounds_of_u32 (hw _ (List.getElem_mem _))).1
      have h3 : (⟨b, off, none⟩ : Addr).add i = ⟨b, off + i, none⟩ := by simp [Addr.add]
      rw [h3] at h1
      rw [h1]
      have e : ((zs.take len).map Int.toNat)[i]?.getD 0 = (zs[i]'(by omega)).toNat := by
        rw [List.getElem?_map, List.getElem?_take, if_pos (by omega), List.getElem?_eq_getElem (by omega)]; rfl
      rw [e, List.getD_eq_getElem?_getD, List.getElem?_eq_getElem (by omega)]
      simp only [Option.getD_some, Option.some.injEq, Value.int.injEq, true_and]
      omega

set_option maxRecDepth 20000 in
/-- A number that came in: its sign, its limbs, where they lie; by the row's own reach they are not too many. -/
theorem open_whole {H : Type} {enc : TypeId × Value → H} {W : World} {base : Nat} {v : Value} {d : DataW H} {p : List MemPlace} (hval : Value.okWide Tryd.prog W .any base 35 v) (h : DataW.Trod enc Tryd.prog W 0 (fun _ => true) true 35 v d p)
    (hs : ∀ n ∈ d.weights Tryd.prog 35, n ≤ reachBytes) :
    ∃ neg ao cap L, v = .agg #[.bool neg, .slice ao L.length cap] ∧ LimbsAt W ao cap L ∧ L.length ≤ 35184372087808 := by
  obtain ⟨c0, c1, y0, y1, m, rfl, rfl, rfl, hy0, hy1⟩ := open_agg2 Tryd.underlying35 (by kernel_rfl) Tryd.cellsW hval h
  obtain ⟨neg, e0, rfl⟩ := DataW.trod_bool Tryd.underlying4 hy0
  simp at e0
  subst e0
  rcases open_ints Tryd.underlying33 Tryd.underlying72 Tryd.cellsU hy1 with ⟨hcs, _⟩ | ⟨a, len, cap, zs, hcs, _, hl, hm, hz, rfl, hcell, hwz⟩
  · simp at hcs
    subst hcs
    exact ⟨neg, none, 0, [], rfl, LimbsAt.nil _ _ _, by simp⟩
  · simp at hcs
    subst hcs
    obtain ⟨h1, h2⟩ := limbs_of_ints hl (by simpa using hz) hcell hwz
    refine ⟨neg, some a, cap, _, by rw [h2], h1, ?_⟩
    have hk := hs ((zs.length) * 4) (by
      simp only [DataW.weights, Tryd.underlying35, DataW.weightsEach, List.map, Tryd.underlying33, List.nil_append, List.append_nil, List.mem_cons, Tryd.bytesU, lits, List.length_map, List.length_take, List.length_drop]
      left
      omega)
    simp only [reachBytes] at hk
    rw [h2]
    have : zs.length = cap := by simpa using hz
    omega

end Go.Proofs.YtenckfflpdgmnabDoor

/- The bounds of an int or int64 that came in. -/
namespace Go.Proofs.YtenckfflpdgmnabDoor

theorem bounds_of_i64 {x : Int} (h : (Lit.int .i64 x).wf = true) : -9223372036854775808 ≤ x ∧ x ≤ 9223372036854775807 := by
  simp [Lit.wf, IntKind.min, IntKind.max, IntKind.signed, IntKind.bits] at h
  omega

end Go.Proofs.YtenckfflpdgmnabDoor

/- A dyadic number that came in, opened; the library's table, as the row lays it. -/
namespace Go.Proofs.YtenckfflpdgmnabDoor
open Go.ChangeShapes Go.WideShapes Go.ChangeAt Go.RowKit Go.Joins

theorem Tryd.cellsD : Tryd.prog.cellsOf 37 = 3 := by kernel_rfl
theorem Tryd.cellsI : Tryd.prog.cellsOf 3 = 1 := by kernel_rfl
theorem Tryd.cellsB : Tryd.prog.cellsOf 4 = 1 := by kernel_rfl
theorem Tryd.cellsS : Tryd.prog.cellsOf 33 = 1 := by kernel_rfl

theorem Tryd.tabName : Tryd.prog.globalNamed "math/bits.deBruijn32tab" = some 0 := by kernel_rfl
theorem Tryd.tabType : (Tryd.prog.globals[0]?).map (·.type) = some 97 := by kernel_rfl
theorem Tryd.tabCells : Tryd.prog.cellsOf 97 = 32 := by kernel_rfl
theorem Tryd.byteCells : Tryd.prog.cellsOf 5 = 1 := by kernel_rfl

theorem tab_getD : ∀ j, j < Lib.deBruijn32tab.length → (List.map Int.ofNat Lib.deBruijn32tab).getD j 0 = ((Lib.deBruijn32tab.getD j 0 : Nat) : Int) := by decide

/-- What the rows' list gives: the table's cells. -/
theorem tab_of_laid {W : World} (h : laidMetH Tryd.prog [("math/bits.deBruijn32tab", Rows.laid_math_bits_deBruijn32tab)] W) : Tab W := by
  have ht := Lib.tabIs_of_head (zs := Lib.deBruijn32tab.map Int.ofNat) (rest := []) Tryd.tabName Tryd.tabType Tryd.underlying97 Tryd.underlying5 Tryd.byteCells Tryd.tabCells h
  intro j hj
  have := ht.cell Tryd.tabName j (by simpa using hj)
  rw [this]
  congr 2
  exact tab_getD j hj

set_option maxRecDepth 20000 in
/-- A dyadic number that came in. -/
theorem open_dyadic {H : Type} {enc : TypeId × Value → H} {W : World} {base : Nat} {v : Value} {d : DataW H} {p : List MemPlace} (hval : Value.okWide Tryd.prog W .any base 37 v) (h : DataW.Trod enc Tryd.prog W 0 (fun _ => true) true 37 v d p)
    (hs : ∀ n ∈ d.weights Tryd.prog 37, n ≤ reachBytes) :
    ∃ (neg : Bool) (ao : Option Addr) (cap : Nat) (L : List Nat) (e : Int), v = .agg #[.bool neg, .slice ao L.length cap, .int .i64 e] ∧ LimbsAt W ao cap L ∧ L.length ≤ 35184372087808 ∧ (-9223372036854775808 ≤ e ∧ e ≤ 9223372036854775807) := by
  obtain ⟨cs, rfl, hsz⟩ := okWide_struct Tryd.underlying37 hval
  obtain ⟨c0, c1, c2, rfl⟩ := array3 (hsz.trans Tryd.cellsD)
  obtain ⟨fuel, hf⟩ := h
  obtain ⟨y0, y1, n, hx, _, h0, h1⟩ := trod_struct2 Tryd.underlying37 hf
  simp only [Prod.mk.injEq] at hx
  obtain ⟨rfl, rfl⟩ := hx
  have h0' : DataW.trod enc Tryd.prog W 0 (fun _ => true) true n 35 [c0, c1] = some y0 := by simpa [Value.cells, Tryd.cellsW] using h0
  have h1' : DataW.trod enc Tryd.prog W 0 (fun _ => true) true n 3 [c2] = some y1 := by simpa [Value.cells, Tryd.cellsI] using h1
  clear h0 h1
  obtain ⟨e, e1, e2, we⟩ := DataW.trod_int Tryd.underlying3 h1'
  simp at e1
  subst e1
  obtain ⟨z0, z1, m, hz, _, g0, g1⟩ := trod_struct2 Tryd.underlying35 h0'
  subst hz
  have g0' : DataW.trod enc Tryd.prog W 0 (fun _ => true) true m 4 [c0] = some z0 := by simpa [Tryd.cellsB] using g0
  have g1' : DataW.trod enc Tryd.prog W 0 (fun _ => true) true m 33 [c1] = some z1 := by simpa [Tryd.cellsS] using g1
  clear g0 g1
  obtain ⟨neg, e0, _⟩ := DataW.trod_bool Tryd.underlying4 g0'
  simp at e0
  subst e0
  have be := bounds_of_i64 we
  rcases open_ints Tryd.underlying33 Tryd.underlying72 Tryd.cellsU g1' with ⟨hcs, _⟩ | ⟨a, len, cap, zs, hcs, _, hl, hm, hzz, rfl, hcell, hwz⟩
  · simp at hcs
    subst hcs
    exact ⟨neg, none, 0, [], e, rfl, LimbsAt.nil _ _ _, by simp, be⟩
  · simp at hcs
    subst hcs
    obtain ⟨l1, l2⟩ := limbs_of_ints hl (by simpa using hzz) hcell hwz
    refine ⟨neg, some a, cap, _, e, by rw [l2], l1, ?_, be⟩
    have hk := hs ((zs.length) * 4) (by
      simp only [DataW.weights, Tryd.underlying37, Tryd.underlying35, DataW.weightsEach, List.map, Tryd.underlying33, List.append_nil, List.mem_cons, List.mem_append, Tryd.bytesU, lits, List.length_map, List.length_take, List.length_drop]
      refine .inl (.inr (.inl ?_))
      have : zs.length = cap := by simpa using hzz
      omega)
    simp only [reachBytes] at hk
    rw [l2]
    have : zs.length = cap := by simpa using hzz
    omega

end Go.Proofs.YtenckfflpdgmnabDoor

