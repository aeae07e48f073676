/- ExactTurns holds: of all square rows whose right numbers have at most 4 limbs and all two places, exact.Det of the rows turned into columns is the same, of the rows with two of them exchanged it is the same with the sign turned (or the same, if the places are one), exact.Rank of rows and of columns is the same, and it is full just where the determinant is not 0; of other rows that the program answers at all; nothing that was there is changed. No condition beyond the row's own. -/
import Derived.Test.YtlcidapdmgchoaaChecked
import Derived.Test.YtlcidapdmgchoaaPart01
import Derived.ProofKit
import Derived.SizedLaws
import Derived.Lib.SmallJoins
import Derived.Test.YtlcidapdmgchoaaPart06
import Derived.Deep.SlicePairs
import Derived.Test.YtlcidapdmgchoaaRows
import Derived.Test.YtlcidapdmgchoaaPart16
/- A struct of a sign and limbs that came in, opened. -/
namespace Go.Proofs.Ytlcidapdmgchoaa
open Go.ChangeShapes Go.WideShapes Go.ChangeAt Go.RowKit Go.Joins

theorem Try.own : ownKnob Try.prog.godebug = none := by kernel_rfl
theorem Try.laidOut : laidOutB Try.prog = true := by kernel_rfl
theorem Try.cellsW : Try.prog.cellsOf 30 = 2 := by kernel_rfl
theorem Try.cellsU : Try.prog.cellsOf 58 = 1 := by kernel_rfl
theorem Try.bytesU : Try.prog.bytesOf 58 = 4 := by kernel_rfl

theorem bounds_of_u32 {x : Int} (h : (Lit.int .u32 x).wf = true) : 0 ≤ x ∧ x < 4294967296 := by
  simp [Lit.wf, IntKind.min, IntKind.max, IntKind.signed, IntKind.bits] at h
  omega

theorem limbs_of_ints {W : World} {a : Addr} {len cap : Nat} {zs : List Int} (hl : len ≤ cap) (hz : zs.length = cap) (hc : ∀ i, i < zs.length → W.cell? (a.add i) = some (.int .u32 (zs.getD i 0))) (hw : ∀ n ∈ zs, (Lit.int .u32 n).wf = true) :
    LimbsAt W (some a) cap ((zs.take len).map Int.toNat) ∧ ((zs.take len).map Int.toNat).length = len := by
  have hlen : ((zs.take len).map Int.toNat).length = len := by simp; omega
  refine ⟨⟨by omega, ?_, ?_⟩, hlen⟩
  · intro x hx
    obtain ⟨y, hy, rfl⟩ := List.mem_map.1 hx
    have := bounds_of_u32 (hw y (List.mem_of_mem_take hy))
    omega
  · rcases Nat.eq_zero_or_pos len with rfl | hp
    · left; simp
    · right
      obtain ⟨b, off, spot⟩ := a
      have h0 := hc 0 (by omega)
      have hspot : spot = none := by simpa [Addr.add] using World.cell?_spot h0
      subst hspot
      have hb : b < W.heap.size := by
        have := World.block_lt_of_cell? W _ h0
        simpa [Addr.add] using this
      refine ⟨b, off, rfl, hb, fun i hi => ?_⟩
      have h1 := hc i (by omega)
      have h2 : (0 : Int) ≤ zs[i]'(by omega) := (bounds_of_u32 (hw _ (List.getElem_mem _))).1
      have h3 : (⟨b, off, none⟩ : Addr).add i = ⟨b, off + i, none⟩ := by simp [Addr.add]
      rw [h3] at h1
      rw [h1]
      have e : ((zs.take len).map Int.toNat)[i]?.getD 0 = (zs[i]'(by omega)).toNat := by
        rw [List.getElem?_map, List.getElem?_take, if_pos (by omega), List.getElem?_eq_getElem (by omega)]; rfl
      rw [e, List.getD_eq_getElem?_getD, List.getElem?_eq_getElem (by omega)]
      simp only [Option.getD_some, Option.some.injEq, Value.int.injEq, true_and]
      omega

/-- A number that came in: its sign, its limbs, where they lie; by the row's own reach they are not too many. -/
theorem open_whole {H : Type} {enc : TypeId × Value → H} {W : World} {base : Nat} {v : Value} {d : DataW H} {p : List MemPlace} (hval : Value.okWide Try.prog W .any base 30 v) (h : DataW.Trod enc Try.prog W 0 (fun _ => true) true 30 v d p)
    (hs : ∀ n ∈ d.weights Try.prog 30, n ≤ reachBytes) :
    ∃ neg ao cap L, v = .agg #[.bool neg, .slice ao L.length cap] ∧ LimbsAt W ao cap L ∧ L.length ≤ 35184372087808 := by
  obtain ⟨c0, c1, y0, y1, m, rfl, rfl, rfl, hy0, hy1⟩ := open_agg2 Try.underlying30 (by kernel_rfl) Try.cellsW hval h
  obtain ⟨neg, e0, rfl⟩ := DataW.trod_bool Try.underlying4 hy0
  simp at e0
  subst e0
  rcases open_ints Try.underlying28 Try.underlying58 Try.cellsU hy1 with ⟨hcs, _⟩ | ⟨a, len, cap, zs, hcs, _, hl, hm, hz, rfl, hcell, hwz⟩
  · simp at hcs
    subst hcs
    exact ⟨neg, none, 0, [], rfl, LimbsAt.nil _ _ _, by simp⟩
  · simp at hcs
    subst hcs
    obtain ⟨h1, h2⟩ := limbs_of_ints hl (by simpa using hz) hcell hwz
    refine ⟨neg, some a, cap, _, by rw [h2], h1, ?_⟩
    have hk := hs ((zs.length) * 4) (by
      simp only [DataW.weights, Try.underlying30, DataW.weightsEach, List.map, Try.underlying28, List.nil_append, List.append_nil, List.mem_cons, Try.bytesU, lits, List.length_map, List.length_take, List.length_drop]
      left
      omega)
    simp only [reachBytes] at hk
    rw [h2]
    have : zs.length = cap := by simpa using hz
    omega

end Go.Proofs.Ytlcidapdmgchoaa

/- Rows of numbers that came in, opened. -/
namespace Go.Proofs.Ytlcidapdmgchoaa
open Go.ChangeShapes Go.WideShapes Go.ChangeAt Go.RowKit Go.Joins Go.Deep

instance : Inhabited Nm := ⟨Nm.nil⟩
instance : Inhabited Rw := ⟨Rw.nil⟩
theorem Try.cellsB : Try.prog.cellsOf 4 = 1 := by kernel_rfl
theorem Try.cellsL : Try.prog.cellsOf 28 = 1 := by kernel_rfl
theorem Try.cellsR : Try.prog.cellsOf 33 = 1 := by kernel_rfl
theorem Try.bytesW : Try.prog.bytesOf 30 = 32 := by kernel_rfl
theorem Try.bytesR : Try.prog.bytesOf 33 = 24 := by kernel_rfl

theorem mem_weightsAll {H : Type} {P : Program} {e : TypeId} : ∀ {ds : List (DataW H)} {d : DataW H}, d ∈ ds → ∀ n ∈ d.weights P e, n ∈ DataW.weightsAll P e ds
  | d0 :: ds, d, hd, n, hn => by
    show n ∈ d0.weights P e ++ DataW.weightsAll P e ds
    rcases List.mem_cons.1 hd with rfl | hd
    · exact List.mem_append_left _ hn
    · exact List.mem_append_right _ (mem_weightsAll hd n hn)

theorem cell_plain {W : World} {a : Addr} {v : Value} (h : W.cell? a = some v) : a.spot = none ∧ a.block < W.heap.size := ⟨World.cell?_spot h, World.block_lt_of_cell? W _ h⟩

theorem add_plain (b off i : Nat) : (⟨b, off, none⟩ : Addr).add i = ⟨b, off + i, none⟩ := by simp [Addr.add]

/-- The two parts of a number. -/
theorem open_parts {H : Type} {enc : TypeId × Value → H} {W : World} {n : Nat} {v0 v1 : Value} {d0 d1 : DataW H} {p0 p1 : List MemPlace} (h0 : DataW.trod enc Try.prog W 0 (fun _ => true) true n 4 [v0] = some (d0, p0)) (h1 : DataW.trod enc Try.prog W 0 (fun _ => true) true n 28 [v1] = some (d1, p1))
    (hs : ∀ k ∈ d1.weights Try.prog 28, k ≤ reachBytes) : ∃ x : Nm, v0 = .bool x.neg ∧ v1 = .slice x.ao x.L.length x.cap ∧ LimbsAt W x.ao x.cap x.L ∧ x.L.length ≤ 35184372087808 := by
  obtain ⟨neg, e0, -⟩ := DataW.trod_bool Try.underlying4 h0
  simp at e0
  subst e0
  rcases open_ints Try.underlying28 Try.underlying58 Try.cellsU h1 with ⟨hcs, _⟩ | ⟨a, len, cap, zs, hcs, _, hl, hm, hz, hx, hcell, hwz⟩
  · simp at hcs
    subst hcs
    exact ⟨⟨neg, none, 0, []⟩, rfl, rfl, LimbsAt.nil _ _ _, by simp⟩
  · simp at hcs
    subst hcs
    simp only [Prod.mk.injEq] at hx
    obtain ⟨rfl, -⟩ := hx
    obtain ⟨h1, h2⟩ := limbs_of_ints hl (by simpa using hz) hcell hwz
    refine ⟨⟨neg, some a, cap, _⟩, rfl, by rw [h2], h1, ?_⟩
    have hk := hs ((zs.length) * 4) (by
      simp only [DataW.weights, Try.underlying28, List.mem_cons, Try.bytesU, lits, List.length_map, List.length_take, List.length_drop]
      left
      omega)
    simp only [reachBytes] at hk
    show _ ≤ 35184372087808
    rw [h2]
    have : zs.length = cap := by simpa using hz
    omega

/-- A row of numbers. -/
theorem open_nums {H : Type} {enc : TypeId × Value → H} {W : World} {fuel : Nat} {cs : List Value} {x : DataW H × List MemPlace} (h : DataW.trod enc Try.prog W 0 (fun _ => true) true fuel 33 cs = some x)
    (hs : ∀ k ∈ x.1.weights Try.prog 33, k ≤ reachBytes) : ∃ r : Rw, cs = [.slice r.ao r.R.length r.cap] ∧ NumsAt W r.ao r.cap r.R ∧ r.R.length ≤ 35184372088830 ∧ ∀ y ∈ r.R, y.L.length ≤ 35184372088830 := by
  rcases open_slice_pairs Try.underlying33 Try.underlying30 Try.cellsW rfl rfl Try.cellsB Try.cellsL h with ⟨hc, _⟩ | ⟨a, len, cap, m, n, V0, V1, D0, D1, P0, P1, hc, _, hl, hm, hmm, hx, hall⟩
  · exact ⟨Rw.nil, hc, ⟨by simp [Rw.nil], by simp [Rw.nil], .inl rfl⟩, by simp [Rw.nil], by simp [Rw.nil]⟩
  · subst hx
    have hmm' : m = cap := by simpa using hmm
    subst hmm'
    have hw : ∀ i, i < len → ∀ k ∈ (D1 i).weights Try.prog 28, k ≤ reachBytes := by
      intro i hi k hk
      refine hs k ?_
      simp only [DataW.weights, Try.underlying33]
      refine List.mem_cons_of_mem _ (List.mem_append_left _ (mem_weightsAll (d := .agg [D0 i, D1 i]) (List.mem_map.2 ⟨i, List.mem_range.2 hi, rfl⟩) k ?_))
      simp only [DataW.weights, Try.underlying30]
      exact DataW.weights_mem_each (j := 1) rfl rfl k hk
    obtain ⟨f, hf⟩ := choose_lt (n := len) (p := fun i (y : Nm) => V0 i = .bool y.neg ∧ V1 i = .slice y.ao y.L.length y.cap ∧ LimbsAt W y.ao y.cap y.L ∧ y.L.length ≤ 35184372087808) (fun i hi => by
      obtain ⟨_, _, t0, t1⟩ := hall i (by omega)
      exact open_parts t0 t1 (hw i hi))
    have hlen : ((List.range len).map f).length = len := by simp
    have hlb : len ≤ 35184372088830 := by
      have := hs ((len + (m - len)) * 32) (by
        simp only [DataW.weights, Try.underlying33, Try.bytesW, List.length_map, List.length_range]
        exact List.mem_cons_self)
      simp only [reachBytes] at this
      omega
    have hnm : ∀ k, k < len → nmAt ((List.range len).map f) k = f k := fun k hk => by
      unfold nmAt
      rw [List.getElem?_map, List.getElem?_range hk]; rfl
    refine ⟨⟨some a, m, (List.range len).map f⟩, by rw [hc]; simp, ⟨by simp; omega, ?_, ?_⟩, by simp; omega, ?_⟩
    · intro y hy
      obtain ⟨i, hi, rfl⟩ := List.mem_map.1 hy
      exact (hf i (List.mem_range.1 hi)).2.2.1
    · rcases Nat.eq_zero_or_pos len with rfl | hp
      · left; simp
      · right
        obtain ⟨b, off, spot⟩ := a
        obtain ⟨e1, e2⟩ := cell_plain (hall 0 (by omega)).1
        have hspot : spot = none := by simpa [Addr.add] using e1
        subst hspot
        refine ⟨b, off, rfl, by simpa [Addr.add] using e2, fun k hk => ?_⟩
        simp only [hlen] at hk
        obtain ⟨g0, g1, g2, _⟩ := hf k hk
        obtain ⟨q0, q1, _, _⟩ := hall k (by omega)
        rw [hnm k hk, ← g0, ← g1]
        rw [add_plain] at q0 q1
        refine ⟨q0, ?_⟩
        rw [Nat.add_assoc]; exact q1
    · intro y hy
      obtain ⟨i, hi, rfl⟩ := List.mem_map.1 hy
      have := (hf i (List.mem_range.1 hi)).2.2.2
      omega

/-- Rows of numbers that came in. -/
theorem open_rows {H : Type} {enc : TypeId × Value → H} {W : World} {base : Nat} {v : Value} {d : DataW H} {p : List MemPlace} (hval : Value.okWide Try.prog W .any base 22 v) (h : DataW.Trod enc Try.prog W 0 (fun _ => true) true 22 v d p)
    (hs : ∀ n ∈ d.weights Try.prog 22, n ≤ reachBytes) : ∃ ao cap M, v = .slice ao M.length cap ∧ MatAt W ao cap M ∧ SmallM M := by
  obtain ⟨a0, len0, cap0, rfl⟩ := okWide_slice Try.underlying22 hval
  obtain ⟨fuel, hf0⟩ := h
  rcases open_slice1 Try.underlying22 Try.cellsR hf0 with ⟨hc, _⟩ | ⟨a, len, cap, m, n, V, D, Pl, hc, _, hl, hm, hmm, hx, hall⟩
  · simp [Value.cells] at hc
    obtain ⟨rfl, rfl, rfl⟩ := hc
    exact ⟨none, 0, [], rfl, ⟨by simp, by simp, .inl rfl⟩, ⟨by simp, by simp⟩⟩
  · simp [Value.cells] at hc
    obtain ⟨rfl, rfl, rfl⟩ := hc
    simp only [Prod.mk.injEq] at hx
    obtain ⟨rfl, -⟩ := hx
    have hmm' : m = cap0 := by simpa using hmm
    subst hmm'
    have hw : ∀ i, i < len0 → ∀ k ∈ (D i).weights Try.prog 33, k ≤ reachBytes := by
      intro i hi k hk
      refine hs k ?_
      simp only [DataW.weights, Try.underlying22]
      exact List.mem_cons_of_mem _ (List.mem_append_left _ (mem_weightsAll (List.mem_map.2 ⟨i, List.mem_range.2 hi, rfl⟩) k hk))
    obtain ⟨f, hf⟩ := choose_lt (n := len0) (p := fun i (r : Rw) => [V i] = [.slice r.ao r.R.length r.cap] ∧ NumsAt W r.ao r.cap r.R ∧ r.R.length ≤ 35184372088830 ∧ ∀ y ∈ r.R, y.L.length ≤ 35184372088830) (fun i hi => open_nums (hall i (by omega)).2 (hw i hi))
    have hlen : ((List.range len0).map f).length = len0 := by simp
    have hlb : len0 ≤ 35184372088830 := by
      have := hs ((len0 + (m - len0)) * 24) (by
        simp only [DataW.weights, Try.underlying22, Try.bytesR, List.length_map, List.length_range]
        exact List.mem_cons_self)
      simp only [reachBytes] at this
      omega
    have hnm : ∀ k, k < len0 → rwAt ((List.range len0).map f) k = f k := fun k hk => by
      unfold rwAt
      rw [List.getElem?_map, List.getElem?_range hk]; rfl
    refine ⟨some a, m, (List.range len0).map f, by rw [hlen], ⟨by simp; omega, ?_, ?_⟩, ⟨by simp; omega, ?_⟩⟩
    · intro r hr
      obtain ⟨i, hi, rfl⟩ := List.mem_map.1 hr
      exact (hf i (List.mem_range.1 hi)).2.1
    · rcases Nat.eq_zero_or_pos len0 with rfl | hp
      · left; simp
      · right
        obtain ⟨b, off, spot⟩ := a
        obtain ⟨e1, e2⟩ := cell_plain (hall 0 (by omega)).1
        have hspot : spot = none := by simpa [Addr.add] using e1
        subst hspot
        refine ⟨b, off, rfl, by simpa [Addr.add] using e2, fun i hi => ?_⟩
        simp only [hlen] at hi
        obtain ⟨g0, _⟩ := hf i hi
        have q0 := (hall i (by omega)).1
        rw [hnm i hi]
        rw [add_plain] at q0
        simp only [List.cons.injEq, and_true] at g0
        rw [q0, g0]; rfl
    · intro r hr
      obtain ⟨i, hi, rfl⟩ := List.mem_map.1 hr
      exact (hf i (List.mem_range.1 hi)).2.2

end Go.Proofs.Ytlcidapdmgchoaa

/- A list of whole numbers that came in, opened. -/
namespace Go.Proofs.Ytlcidapdmgchoaa
open Go.ChangeShapes Go.WideShapes Go.ChangeAt Go.RowKit Go.Joins Go.Deep

theorem Try.cellsI : Try.prog.cellsOf 3 = 1 := by kernel_rfl
theorem Try.bytesI : Try.prog.bytesOf 3 = 8 := by kernel_rfl

theorem bounds_of_i64 {x : Int} (h : (Lit.int .i64 x).wf = true) : -9223372036854775808 ≤ x ∧ x ≤ 9223372036854775807 := by
  simp [Lit.wf, IntKind.min, IntKind.max, IntKind.signed, IntKind.bits] at h
  omega

theorem open_list {H : Type} {enc : TypeId × Value → H} {W : World} {base : Nat} {v : Value} {d : DataW H} {p : List MemPlace} (hval : Value.okWide Try.prog W .any base 35 v) (h : DataW.Trod enc Try.prog W 0 (fun _ => true) true 35 v d p)
    (hs : ∀ n ∈ d.weights Try.prog 35, n ≤ reachBytes) : ∃ ao cap I, v = .slice ao I.length cap ∧ IntsAt W ao cap I ∧ I.length ≤ 35184372088830 := by
  obtain ⟨a0, len0, cap0, rfl⟩ := okWide_slice Try.underlying35 hval
  obtain ⟨fuel, hf⟩ := h
  rcases open_ints Try.underlying35 Try.underlying3 Try.cellsI hf with ⟨hcs, _⟩ | ⟨a, len, cap, zs, hcs, _, hl, hm, hz, hx, hcell, hwz⟩
  · simp [Value.cells] at hcs
    obtain ⟨rfl, rfl, rfl⟩ := hcs
    exact ⟨none, 0, [], rfl, ⟨by simp, by simp, .inl rfl⟩, by simp⟩
  · simp [Value.cells] at hcs
    obtain ⟨rfl, rfl, rfl⟩ := hcs
    simp only [Prod.mk.injEq] at hx
    obtain ⟨rfl, -⟩ := hx
    have hzc : zs.length = cap0 := by simpa using hz
    have hk := hs ((zs.length) * 8) (by
      simp only [DataW.weights, Try.underlying35, List.mem_cons, Try.bytesI, lits, List.length_map, List.length_take, List.length_drop]
      left
      omega)
    simp only [reachBytes] at hk
    have hlen : (zs.take len0).length = len0 := by simp; omega
    refine ⟨some a, cap0, zs.take len0, by rw [hlen], ⟨by omega, fun x hx => bounds_of_i64 (hwz x (List.mem_of_mem_take hx)), ?_⟩, by omega⟩
    rcases Nat.eq_zero_or_pos len0 with rfl | hp
    · left; simp
    · right
      obtain ⟨b, off, spot⟩ := a
      obtain ⟨e1, e2⟩ := cell_plain (hcell 0 (by omega))
      have hspot : spot = none := by simpa [Addr.add] using e1
      subst hspot
      refine ⟨b, off, rfl, by simpa [Addr.add] using e2, fun i hi => ?_⟩
      have h1 := hcell i (by omega)
      rw [add_plain] at h1
      rw [h1, List.getElem?_take, if_pos (by omega), List.getD_eq_getElem?_getD]

end Go.Proofs.Ytlcidapdmgchoaa

namespace Go.Proofs.Ytlcidapdmgchoaa
open Go.ChangeShapes Go.WideShapes Go.ChangeAt Go.RowKit

set_option maxRecDepth 100000 in
theorem exactTurns_lifted (os : Os) (started : os.Started) (H : Type) (enc : TypeId × Value → H) :
    ReturnsInHanded {} Try.checked os 7 .any (Rows.exactTurnsSpec.pre6 enc Try.prog Try.f7 Rows.exactTurnsRow.domain false) (Rows.exactTurnsSpec.post enc Try.prog Try.f7 false true false false) := by
  refine returnsInHanded_of_change_sized (C := Try.checked) Try.own started (by kernel_rfl) Try.func7
    (ChangeSpec.witness6 (enc := enc) (C := Try.checked) false ⟨#[], #[.slice none 0 0, .int .i64 0, .int .i64 0], []⟩ 8 (by kernel_rfl) (by kernel_rfl) (by kernel_rfl) (by kernel_rfl)) ?_
  intro W base args ds gs before hval0 hW hcnd hsz0 _
  have hval : ∀ (j : Nat) t v, Try.f7.params[j]? = some t → args[j]? = some v → Value.okWide Try.prog W .any base t v := hval0
  have hsz : (DataW.weightsEach Try.prog (Try.f7.params.toList ++ Rows.exactTurnsSpec.plain.varTypes Try.prog) (ds ++ gs)).all (· ≤ reachBytes) = true := hsz0
  have hW' := hW
  obtain ⟨p, q, hA0, hV, rfl, hfz, hnd⟩ := hW
  have hA : DataW.TrodAll enc Try.prog W 0 (fun _ => true) true Try.f7.params.toList args.toList ds p := hA0
  rw [Try.params7] at hA hval hsz
  obtain ⟨v0, vs0, d0, ds0, p0, q0, hargs, rfl, rfl, h0, r0⟩ := trodAll_cons hA
  obtain ⟨v1, vs1, d1, ds1, p1, q1, rfl, rfl, rfl, h1, r1⟩ := trodAll_cons r0
  obtain ⟨v2, vs2, d2, ds2, p2, q2, rfl, rfl, rfl, h2, r2⟩ := trodAll_cons r1
  obtain ⟨rfl, rfl, rfl⟩ := trodAll_nil r2
  obtain rfl : args = #[v0, v1, v2] := by cases args; simp_all
  obtain ⟨rfl, rfl⟩ := trodVars_none hV
  have k0 := h0
  have lt0 : ∀ x ∈ p0, x.block < W.heap.size := by obtain ⟨m, hm⟩ := k0; exact DataW.trod_lt m _ _ _ hm
  obtain ⟨a0, c0, M, rfl, hM, hSm⟩ := open_rows (hval 0 22 v0 rfl rfl) h0 (fun n hn => of_decide_eq_true (List.all_eq_true.1 hsz n (DataW.weights_mem_each (j := 0) rfl rfl n hn)))
  obtain ⟨x1, rfl, rfl, rfl, w1⟩ := open_int Try.underlying3 (hval 1 3 v1 rfl rfl) h1
  obtain ⟨x2, rfl, rfl, rfl, w2⟩ := open_int Try.underlying3 (hval 2 3 v2 rfl rfl) h2
  clear hA0 hval0
  refine (exactTurns_walk a0 c0 M x1 x2 W hM hSm).mono fun e W' ⟨he, bel⟩ => ?_
  subst he
  exact ⟨_, rfl, _, _, _, [], _, [], hW', trodAll_mk1 (shut_bool Try.underlying4 _), trodAll_cons_mk (Below.trod Try.laidOut (by kernel_rfl) (of_decide_eq_true (by kernel_rfl)) k0 bel lt0) (trodAll_cons_mk (shut_int Try.underlying3 w1) (trodAll_cons_mk (shut_int Try.underlying3 w2) (trodAll_mk0))), rfl, bel.frame _, fun h => by cases h⟩

/-- The statement. -/
theorem exactTurns_holds : Rows.ExactTurnsSaid :=
  OpenClaim.holds_of_wide 7 Try.f7 rfl rfl rfl rfl rfl rfl rfl ⟨rfl, rfl, rfl, rfl, rfl⟩ rfl rfl rfl rfl rfl (by kernel_rfl) Try.func7 (by kernel_rfl)
    (of_decide_eq_true (by kernel_rfl)) (by unfold Func.isWrapper; first | (rw [if_pos (by decide +kernel)]; kernel_rfl) | (rw [if_neg (by decide +kernel)]; exact ⟨rfl, rfl⟩))
    (fun os started H enc _ => exactTurns_lifted os started H enc)
#print axioms exactTurns_holds

end Go.Proofs.Ytlcidapdmgchoaa

