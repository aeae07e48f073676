/- VectorAxpys holds: of any number and any two lists of bits the program's Axpy and Times tell, in new memory (spoiling the lists that were handed in turns nothing of it), what the document's own order of operations gives with Go's own float64, or ErrShape and nothing, and the program is awake; under the condition that the library's table deBruijn32tab holds what its initialiser lays, which the card ties to the program's text (of this seat's pruned copy); nothing that was there is changed. -/
import Derived.Test.YtlbggedahpnjgaaGreatDoorRows
import Derived.Test.YtlbggedahpnjgaaGreatDoorPart34
import Derived.Test.YtlbggedahpnjgaaGreatDoorPart12
import Derived.Lib.LaidTab
import Derived.OpenShut
import Derived.Deep.DeepHandedRow
import Derived.Test.YtlbggedahpnjgaaGreatDoorPart31
import Derived.Test.YtlbggedahpnjgaaGreatDoorCards
import Derived.Test.YtlbggedahpnjgaaGreatDoorTie
/- A dyadic number that came in, opened; the library's table, as the row lays it. -/
namespace Go.Proofs.YtlbggedahpnjgaaGreatDoor
open Go.ChangeShapes Go.WideShapes Go.ChangeAt Go.RowKit Go.Joins

theorem Tryz.cellsD : Tryz.prog.cellsOf 45 = 3 := by kernel_rfl
theorem Tryz.cellsI : Tryz.prog.cellsOf 3 = 1 := by kernel_rfl
theorem Tryz.cellsB : Tryz.prog.cellsOf 4 = 1 := by kernel_rfl
theorem Tryz.cellsS : Tryz.prog.cellsOf 41 = 1 := by kernel_rfl

theorem Tryz.tabName : Tryz.prog.globalNamed "math/bits.deBruijn32tab" = some 1 := by kernel_rfl
theorem Tryz.tabType : (Tryz.prog.globals[1]?).map (·.type) = some 144 := by kernel_rfl
theorem Tryz.tabCells : Tryz.prog.cellsOf 144 = 32 := by kernel_rfl
theorem Tryz.byteCells : Tryz.prog.cellsOf 5 = 1 := by kernel_rfl

theorem tab_getD : ∀ j, j < Lib.deBruijn32tab.length → (List.map Int.ofNat Lib.deBruijn32tab).getD j 0 = ((Lib.deBruijn32tab.getD j 0 : Nat) : Int) := by decide

/-- What the rows' list gives: the table's cells. -/
theorem tab_of_laid {W : World} (h : laidMetH Tryz.prog [("math/bits.deBruijn32tab", Rows.laid_math_bits_deBruijn32tab)] W) : Tab W := by
  have ht := Lib.tabIs_of_head (zs := Lib.deBruijn32tab.map Int.ofNat) (rest := []) Tryz.tabName Tryz.tabType Tryz.underlying144 Tryz.underlying5 Tryz.byteCells Tryz.tabCells h
  intro j hj
  have := ht.cell Tryz.tabName j (by simpa using hj)
  rw [this]
  congr 2
  exact tab_getD j hj

set_option maxRecDepth 20000 in
/-- A dyadic number that came in. -/
theorem open_dyadic {H : Type} {enc : TypeId × Value → H} {W : World} {base : Nat} {v : Value} {d : DataW H} {p : List MemPlace} (hval : Value.okWide Tryz.prog W .any base 45 v) (h : DataW.Trod enc Tryz.prog W 0 (fun _ => true) true 45 v d p)
    (hs : ∀ n ∈ d.weights Tryz.prog 45, n ≤ reachBytes) :
    ∃ (neg : Bool) (ao : Option Addr) (cap : Nat) (L : List Nat) (e : Int), v = .agg #[.bool neg, .slice ao L.length cap, .int .i64 e] ∧ LimbsAt W ao cap L ∧ L.length ≤ 35184372087808 ∧ (-9223372036854775808 ≤ e ∧ e ≤ 9223372036854775807) := by
  obtain ⟨cs, rfl, hsz⟩ := okWide_struct Tryz.underlying45 hval
  obtain ⟨c0, c1, c2, rfl⟩ := array3 (hsz.trans Tryz.cellsD)
  obtain ⟨fuel, hf⟩ := h
  obtain ⟨y0, y1, n, hx, _, h0, h1⟩ := trod_struct2 Tryz.underlying45 hf
  simp only [Prod.mk.injEq] at hx
  obtain ⟨rfl, rfl⟩ := hx
  have h0' : DataW.trod enc Tryz.prog W 0 (fun _ => true) true n 43 [c0, c1] = some y0 := by simpa [Value.cells, Tryz.cellsW] using h0
  have h1' : DataW.trod enc Tryz.prog W 0 (fun _ => true) true n 3 [c2] = some y1 := by simpa [Value.cells, Tryz.cellsI] using h1
  clear h0 h1
  obtain ⟨e, e1, e2, we⟩ := DataW.trod_int Tryz.underlying3 h1'
  simp at e1
  subst e1
  obtain ⟨z0, z1, m, hz, _, g0, g1⟩ := trod_struct2 Tryz.underlying43 h0'
  subst hz
  have g0' : DataW.trod enc Tryz.prog W 0 (fun _ => true) true m 4 [c0] = some z0 := by simpa [Tryz.cellsB] using g0
  have g1' : DataW.trod enc Tryz.prog W 0 (fun _ => true) true m 41 [c1] = some z1 := by simpa [Tryz.cellsS] using g1
  clear g0 g1
  obtain ⟨neg, e0, _⟩ := DataW.trod_bool Tryz.underlying4 g0'
  simp at e0
  subst e0
  have be := bounds_of_i64 we
  rcases open_ints Tryz.underlying41 Tryz.underlying87 Tryz.cellsU g1' with ⟨hcs, _⟩ | ⟨a, len, cap, zs, hcs, _, hl, hm, hzz, rfl, hcell, hwz⟩
  · simp at hcs
    subst hcs
    exact ⟨neg, none, 0, [], e, rfl, LimbsAt.nil _ _ _, by simp, be⟩
  · simp at hcs
    subst hcs
    obtain ⟨l1, l2⟩ := limbs_of_ints hl (by simpa using hzz) hcell hwz
    refine ⟨neg, some a, cap, _, e, by rw [l2], l1, ?_, be⟩
    have hk := hs ((zs.length) * 4) (by
      simp only [DataW.weights, Tryz.underlying45, Tryz.underlying43, DataW.weightsEach, List.map, Tryz.underlying41, List.append_nil, List.mem_cons, List.mem_append, Tryz.bytesU, lits, List.length_map, List.length_take, List.length_drop]
      refine .inl (.inr (.inl ?_))
      have : zs.length = cap := by simpa using hzz
      omega)
    simp only [reachBytes] at hk
    rw [l2]
    have : zs.length = cap := by simpa using hzz
    omega

end Go.Proofs.YtlbggedahpnjgaaGreatDoor

/- Bits that came in. -/
namespace Go.Proofs.YtlbggedahpnjgaaGreatDoor
open Go.ChangeShapes Go.WideShapes Go.ChangeAt Go.RowKit

theorem nat_of_u64 {n : Int} (h : (Lit.int .u64 n).wf = true) : ∃ m : Nat, n = (m : Int) ∧ m < 18446744073709551616 := by
  simp [Lit.wf, IntKind.min, IntKind.max, IntKind.signed, IntKind.bits] at h
  exact ⟨n.toNat, by omega, by omega⟩

end Go.Proofs.YtlbggedahpnjgaaGreatDoor

/- A list of bits that came in, opened. -/
namespace Go.Proofs.YtlbggedahpnjgaaGreatDoor
open Go.ChangeShapes Go.WideShapes Go.ChangeAt Go.RowKit Go.Joins Go.Deep

theorem Tryz.cellsBits : Tryz.prog.cellsOf 23 = 1 := by kernel_rfl
theorem Tryz.bytesBits : Tryz.prog.bytesOf 23 = 8 := by kernel_rfl

theorem cellOf_plain {W : World} {a : Addr} {v : Value} (h : W.cell? a = some v) : a.spot = none ∧ a.block < W.heap.size := ⟨World.cell?_spot h, World.block_lt_of_cell? W _ h⟩
theorem addOf_plain (b off i : Nat) : (⟨b, off, none⟩ : Addr).add i = ⟨b, off + i, none⟩ := by simp [Addr.add]

theorem bounds_of_u64 {x : Int} (h : (Lit.int .u64 x).wf = true) : 0 ≤ x ∧ x ≤ 18446744073709551615 := by
  simp [Lit.wf, IntKind.min, IntKind.max, IntKind.signed, IntKind.bits] at h
  omega

set_option maxRecDepth 20000 in
theorem open_bits {H : Type} {enc : TypeId × Value → H} {W : World} {base : Nat} {v : Value} {d : DataW H} {p : List MemPlace} (hval : Value.okWide Tryz.prog W .any base 24 v) (h : DataW.Trod enc Tryz.prog W 0 (fun _ => true) true 24 v d p)
    (hs : ∀ n ∈ d.weights Tryz.prog 24, n ≤ reachBytes) : ∃ ao cap I, v = .slice ao I.length cap ∧ BitsAt W ao cap I ∧ I.length ≤ 35184372088830 := by
  obtain ⟨a0, len0, cap0, rfl⟩ := okWide_slice Tryz.underlying24 hval
  obtain ⟨fuel, hf⟩ := h
  rcases open_ints Tryz.underlying24 Tryz.underlying23 Tryz.cellsBits hf with ⟨hcs, _⟩ | ⟨a, len, cap, zs, hcs, _, hl, hm, hz, hx, hcell, hwz⟩
  · simp [Value.cells] at hcs
    obtain ⟨rfl, rfl, rfl⟩ := hcs
    exact ⟨none, 0, [], rfl, ⟨by simp, by simp, .inl rfl⟩, by simp⟩
  · simp [Value.cells] at hcs
    obtain ⟨rfl, rfl, rfl⟩ := hcs
    simp only [Prod.mk.injEq] at hx
    obtain ⟨rfl, -⟩ := hx
    have hzc : zs.length = cap0 := by simpa using hz
    have hk := hs ((zs.length) * 8) (by
      simp only [DataW.weights, Tryz.underlying24, List.mem_cons, Tryz.bytesBits, lits, List.length_map, List.length_take, List.length_drop]
      left
      omega)
    simp only [reachBytes] at hk
    have hlen : (zs.take len0).length = len0 := by simp; omega
    refine ⟨some a, cap0, zs.take len0, by rw [hlen], ⟨by omega, fun x hx => bounds_of_u64 (hwz x (List.mem_of_mem_take hx)), ?_⟩, by omega⟩
    rcases Nat.eq_zero_or_pos len0 with rfl | hp
    · left; simp
    · right
      obtain ⟨b, off, spot⟩ := a
      obtain ⟨e1, e2⟩ := cellOf_plain (hcell 0 (by omega))
      have hspot : spot = none := by simpa [Addr.add] using e1
      subst hspot
      refine ⟨b, off, rfl, by simpa [Addr.add] using e2, fun i hi => ?_⟩
      have h1 := hcell i (by omega)
      rw [addOf_plain] at h1
      rw [h1, List.getElem?_take, if_pos (by omega), List.getD_eq_getElem?_getD]

end Go.Proofs.YtlbggedahpnjgaaGreatDoor

/- A list of bits that came in, opened, with what its bytes allow. -/
namespace Go.Proofs.YtlbggedahpnjgaaGreatDoor
open Go.ChangeShapes Go.WideShapes Go.ChangeAt Go.RowKit Go.Joins Go.Deep

set_option maxRecDepth 20000 in
theorem open_bits8 {H : Type} {enc : TypeId × Value → H} {W : World} {base : Nat} {v : Value} {d : DataW H} {p : List MemPlace} (hval : Value.okWide Tryz.prog W .any base 24 v) (h : DataW.Trod enc Tryz.prog W 0 (fun _ => true) true 24 v d p)
    (hs : ∀ n ∈ d.weights Tryz.prog 24, n ≤ reachBytes) : ∃ ao cap I, v = .slice ao I.length cap ∧ BitsAt W ao cap I ∧ I.length ≤ 17592186043904 := by
  obtain ⟨a0, len0, cap0, rfl⟩ := okWide_slice Tryz.underlying24 hval
  obtain ⟨fuel, hf⟩ := h
  rcases open_ints Tryz.underlying24 Tryz.underlying23 Tryz.cellsBits hf with ⟨hcs, _⟩ | ⟨a, len, cap, zs, hcs, _, hl, hm, hz, hx, hcell, hwz⟩
  · simp [Value.cells] at hcs
    obtain ⟨rfl, rfl, rfl⟩ := hcs
    exact ⟨none, 0, [], rfl, ⟨by simp, by simp, .inl rfl⟩, by simp⟩
  · simp [Value.cells] at hcs
    obtain ⟨rfl, rfl, rfl⟩ := hcs
    simp only [Prod.mk.injEq] at hx
    obtain ⟨rfl, -⟩ := hx
    have hzc : zs.length = cap0 := by simpa using hz
    have hk := hs ((zs.length) * 8) (by
      simp only [DataW.weights, Tryz.underlying24, List.mem_cons, Tryz.bytesBits, lits, List.length_map, List.length_take, List.length_drop]
      left
      omega)
    simp only [reachBytes] at hk
    have hlen : (zs.take len0).length = len0 := by simp; omega
    refine ⟨some a, cap0, zs.take len0, by rw [hlen], ⟨by omega, fun x hx => bounds_of_u64 (hwz x (List.mem_of_mem_take hx)), ?_⟩, by omega⟩
    rcases Nat.eq_zero_or_pos len0 with rfl | hp
    · left; simp
    · right
      obtain ⟨b, off, spot⟩ := a
      obtain ⟨e1, e2⟩ := cellOf_plain (hcell 0 (by omega))
      have hspot : spot = none := by simpa [Addr.add] using e1
      subst hspot
      refine ⟨b, off, rfl, by simpa [Addr.add] using e2, fun i hi => ?_⟩
      have h1 := hcell i (by omega)
      rw [addOf_plain] at h1
      rw [h1, List.getElem?_take, if_pos (by omega), List.getD_eq_getElem?_getD]

end Go.Proofs.YtlbggedahpnjgaaGreatDoor

namespace Go.Proofs.YtlbggedahpnjgaaGreatDoor
open Go.ChangeShapes Go.WideShapes Go.ChangeAt Go.RowKit

set_option maxRecDepth 100000 in
theorem vectorAxpys_contract (H : Type) (enc : TypeId × Value → H) (W : World) (base : Nat) (args : Array Value) (ds gs : List (DataW H)) (before : List MemPlace)
    (hval : ∀ (j : Nat) t v, Tryz.f3.params[j]? = some t → args[j]? = some v → Value.okWide Tryz.prog W .any base t v)
    (hW : DataW.Whole enc Tryz.prog Tryz.f3.params.toList Rows.vectorAxpysSpec.vars false W args.toList ds gs before)
    (hsz0 : (DataW.weightsEach Tryz.prog (Tryz.f3.params.toList ++ (OpenSpec.ofChange Rows.vectorAxpysSpec).bare.plain.varTypes Tryz.prog) (ds ++ gs)).all (· ≤ reachBytes) = true) (hLd : laidMetH Tryz.prog Rows.vectorAxpysRow.laid W) :
    Calls Tryz.prog 3 args W fun e W' => ∃ v, e = .returned v ∧ Rows.vectorAxpysSpec.post enc Tryz.prog Tryz.f3 false true false false W args v W' := by
  have hT : Tab W := tab_of_laid hLd
  have hsz : (DataW.weightsEach Tryz.prog (Tryz.f3.params.toList ++ (OpenSpec.ofChange Rows.vectorAxpysSpec).bare.plain.varTypes Tryz.prog) (ds ++ gs)).all (· ≤ reachBytes) = true := hsz0
  have hW' := hW
  obtain ⟨p, q, hA0, hV, rfl, hfz, hnd⟩ := hW
  have hA : DataW.TrodAll enc Tryz.prog W 0 (fun _ => true) true Tryz.f3.params.toList args.toList ds p := hA0
  rw [Tryz.params3] at hA hval hsz
  obtain ⟨v0, vs0, d0, ds0, p0, q0, hargs, rfl, rfl, h0, r0⟩ := trodAll_cons hA
  obtain ⟨v1, vs1, d1, ds1, p1, q1, rfl, rfl, rfl, h1, r1⟩ := trodAll_cons r0
  obtain ⟨v2, vs2, d2, ds2, p2, q2, rfl, rfl, rfl, h2, r2⟩ := trodAll_cons r1
  obtain ⟨rfl, rfl, rfl⟩ := trodAll_nil r2
  obtain rfl : args = #[v0, v1, v2] := by cases args; simp_all
  obtain ⟨rfl, rfl⟩ := trodVars_none hV
  obtain ⟨x0, rfl, rfl, rfl, w0⟩ := open_int Tryz.underlying23 (hval 0 23 v0 rfl rfl) h0
  obtain ⟨y0, hy0, hb0⟩ := nat_of_u64 w0
  subst hy0
  have k1 := h1
  have lt1 : ∀ x ∈ p1, x.block < W.heap.size := by obtain ⟨m, hm⟩ := k1; exact DataW.trod_lt m _ _ _ hm
  obtain ⟨a1, c1, L1, rfl, hL1, hl1⟩ := open_bits8 (hval 1 24 v1 rfl rfl) h1 (fun n hn => of_decide_eq_true (List.all_eq_true.1 hsz n (DataW.weights_mem_each (j := 1) rfl rfl n hn)))
  have k2 := h2
  have lt2 : ∀ x ∈ p2, x.block < W.heap.size := by obtain ⟨m, hm⟩ := k2; exact DataW.trod_lt m _ _ _ hm
  obtain ⟨a2, c2, L2, rfl, hL2, hl2⟩ := open_bits8 (hval 2 24 v2 rfl rfl) h2 (fun n hn => of_decide_eq_true (List.all_eq_true.1 hsz n (DataW.weights_mem_each (j := 2) rfl rfl n hn)))
  clear hA0
  refine (vectorAxpys_walk y0 a1 c1 L1 a2 c2 L2 W hb0 hL1 hl1 hL2 hl2 hT).mono fun e W' ⟨he, bel⟩ => ?_
  subst he
  exact ⟨_, rfl, _, _, _, [], _, [], hW', trodAll_mk1 (shut_bool Tryz.underlying4 _), trodAll_cons_mk (shut_int Tryz.underlying23 w0) (trodAll_cons_mk (Below.trod Tryz.laidOut (by kernel_rfl) (of_decide_eq_true (by kernel_rfl)) k1 bel lt1) (trodAll_cons_mk (Below.trod Tryz.laidOut (by kernel_rfl) (of_decide_eq_true (by kernel_rfl)) k2 bel lt2) (trodAll_mk0))), rfl, bel.frame _, fun h => by cases h⟩

/-- A world for the witness: the table holds what its initialiser lays. -/
noncomputable def vectorAxpys_world (os : Os) : World :=
  { World.holding Tryz.prog os ⟨#[], #[], []⟩ with heap := (World.holding Tryz.prog os ⟨#[], #[], []⟩).heap.modify 1 fun
      | .cells _ t frozen => .cells (Lib.deBruijn32tab.map fun z : Nat => Value.int .u8 (z : Int)).toArray t frozen
      | o => o }
theorem vectorAxpys_met (os : Os) : laidMet Tryz.prog Rows.vectorAxpysRow.laid ((vectorAxpys_world os).forCall (fun _ _ => 0) ⟨#[], #[.int .u64 0, .slice none 0 0, .slice none 0 0], []⟩).memory :=
  laidMet_of_run' 8 (by kernel_rfl) (by kernel_rfl)
theorem vectorAxpys_reads (os : Os) {H : Type} (enc : TypeId × Value → H) : ∃ places, DataW.whole enc Tryz.prog ((vectorAxpys_world os).forCall (fun _ _ => 0) ⟨#[], #[.int .u64 0, .slice none 0 0, .slice none 0 0], []⟩).memory Tryz.f3.params.toList Rows.vectorAxpysSpec.vars false #[.int .u64 0, .slice none 0 0, .slice none 0 0].toList 8 = some ([.lit (.int .u64 0), .nil, .nil], [], places) :=
  ⟨[], by kernel_rfl⟩

set_option maxRecDepth 100000 in
theorem vectorAxpys_lifted (os : Os) (started : os.Started) (H : Type) (enc : TypeId × Value → H) (F : Stop.Interp) :
    ReturnsInHanded {} Tryz.checked os 3 .any ((OpenSpec.ofChange Rows.vectorAxpysSpec).preRow enc Tryz.prog Tryz.f3 Rows.vectorAxpysRow.domain false Rows.vectorAxpysRow.laid) (((OpenSpec.ofChange Rows.vectorAxpysSpec).at F).post enc Tryz.prog Tryz.f3 false true false false) := by
  obtain ⟨places, hx⟩ := vectorAxpys_reads os enc
  refine returnsInHanded_of_row (C := Tryz.checked) (s := OpenSpec.ofChange Rows.vectorAxpysSpec) Tryz.own started (by kernel_rfl) Tryz.func3
    (witness_row_at (enc := enc) (C := Tryz.checked) false (vectorAxpys_world os) #[.int .u64 0, .slice none 0 0, .slice none 0 0] rfl (by kernel_rfl) (by kernel_rfl) (by kernel_rfl)
      (OpenSpec.preRow_of_cond 8 hx (by kernel_rfl) (fun k hk => by cases hk) (by kernel_rfl) (vectorAxpys_met os))) ?_
  intro W base args ds gs before hval hW _ _ hsz hL _ _
  exact vectorAxpys_contract H enc W base args ds gs before hval hW hsz hL

theorem vectorAxpys_said : Rows.VectorAxpysSaid :=
  OpenClaim.holds_of_cond 3 Tryz.f3 rfl rfl rfl rfl rfl rfl rfl ⟨rfl, rfl, rfl, rfl, rfl⟩ rfl rfl rfl rfl rfl (by kernel_rfl) Tryz.func3 (by kernel_rfl)
    (of_decide_eq_true (by kernel_rfl)) (by unfold Func.isWrapper; first | (rw [if_pos (by decide +kernel)]; kernel_rfl) | (rw [if_neg (by decide +kernel)]; exact ⟨rfl, rfl⟩))
    (fun os started H enc _ F => by rw [OpenClaim.pre_eq_preRow]; exact vectorAxpys_lifted os started H enc F)

theorem vectorAxpys_plain (f : FuncId) (fn : Func) (hf : Tryz.pinned.checked.prog.funcNamed "dioptra/dioptralaw09.VectorAxpys" = some f) (hfn : Tryz.pinned.checked.prog.funcs[f]? = some fn) :
    false = Tryz.pinned.checked.prog.looks [] ∧ ∀ (j : Nat) t, fn.params[j]? = some t → Tryz.pinned.checked.prog.wantsStandIn t = false := by
  obtain rfl : f = 3 := Option.some.inj ((show Tryz.prog.funcNamed "dioptra/dioptralaw09.VectorAxpys" = some 3 by kernel_rfl).symm.trans hf) |>.symm
  obtain rfl : fn = Tryz.f3 := (Option.some.inj (Tryz.func3.symm.trans hfn)).symm
  refine ⟨by kernel_rfl, fun j t ht => ?_⟩
  rw [Tryz.params3] at ht
  have hm : t ∈ [23, 24, 24] := by simpa using Array.mem_of_getElem? ht
  have hall : ([23, 24, 24].all fun u => !Tryz.prog.wantsStandIn u) = true := by kernel_rfl
  exact (show Tryz.prog.wantsStandIn t = false by simpa using List.all_eq_true.1 hall t hm)

/-- The statement: the row, with the library's table tied to the program's text. -/
theorem vectorAxpys_card : Rows.VectorAxpysCardSaid :=
  Claim7.holds_tied_plain_at .later [] _ _ _ _ vectorAxpys_said (fun _ h => by cases h) (by kernel_rfl) (fun _ h => by cases h) vectorAxpys_row_tie rfl ⟨rfl, rfl⟩ (by kernel_rfl) rfl vectorAxpys_plain (by kernel_rfl)
#print axioms vectorAxpys_card

end Go.Proofs.YtlbggedahpnjgaaGreatDoor

