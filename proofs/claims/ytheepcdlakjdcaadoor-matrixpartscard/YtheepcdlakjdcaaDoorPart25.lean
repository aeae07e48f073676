/- MatrixParts is true for every matrix and any part: that part and the rows as columns, in new memory, or why there are none. -/
import Derived.Test.YtheepcdlakjdcaaDoorPart24
import Derived.Deep.Strs
import Derived.Test.YtheepcdlakjdcaaDoorCards
import Derived.Test.YtheepcdlakjdcaaDoorTie
/- A matrix that came in, opened; four whole numbers that came in. -/
namespace Go.Proofs.YtheepcdlakjdcaaDoor
open Go.ChangeShapes Go.WideShapes Go.ChangeAt Go.RowKit Go.Joins Go.Deep

theorem Tryd.cellsMx : Tryd.prog.cellsOf 24 = 3 := by kernel_rfl

set_option maxRecDepth 20000 in
theorem open_matrix {H : Type} {enc : TypeId × Value → H} {W : World} {base : Nat} {v : Value} {d : DataW H} {p : List MemPlace} (hval : Value.okWide Tryd.prog W .any base 24 v) (h : DataW.Trod enc Tryd.prog W 0 (fun _ => true) true 24 v d p)
    (hs : ∀ n ∈ d.weights Tryd.prog 24, n ≤ reachBytes) :
    ∃ (r c : Int) (ao : Option Addr) (cap : Nat) (I : List Int), v = .agg #[.int .i64 r, .int .i64 c, .slice ao I.length cap] ∧ BitsAt W ao cap I ∧ I.length ≤ 17592186043904 ∧ (-9223372036854775808 ≤ r ∧ r ≤ 9223372036854775807) ∧ (-9223372036854775808 ≤ c ∧ c ≤ 9223372036854775807) := by
  obtain ⟨c0, c1, c2, y0, y1, y2, m, rfl, rfl, rfl, hy0, hy1, hy2⟩ := open_agg3 Tryd.underlying24 (by kernel_rfl) Tryd.cellsMx hval h
  obtain ⟨r, e0, _, w0⟩ := DataW.trod_int Tryd.underlying3 hy0
  simp at e0
  subst e0
  obtain ⟨c, e1, _, w1⟩ := DataW.trod_int Tryd.underlying3 hy1
  simp at e1
  subst e1
  have b0 := bounds_of_i64 w0
  have b1 := bounds_of_i64 w1
  rcases open_ints Tryd.underlying22 Tryd.underlying26 Tryd.cellsBits hy2 with ⟨hcs, _⟩ | ⟨a, len0, cap0, zs, hcs, _, hl, hm, hz, hx, hcell, hwz⟩
  · simp at hcs
    subst hcs
    exact ⟨r, c, none, 0, [], rfl, ⟨by simp, by simp, .inl rfl⟩, by simp, b0, b1⟩
  · simp at hcs
    subst hcs
    have hzc : zs.length = cap0 := by simpa using hz
    have hlen : (zs.take len0).length = len0 := by simp; omega
    refine ⟨r, c, some a, cap0, zs.take len0, by rw [hlen], ⟨by omega, fun x hx => bounds_of_u64 (hwz x (List.mem_of_mem_take hx)), ?_⟩, ?_, b0, b1⟩
    · rcases Nat.eq_zero_or_pos len0 with rfl | hp
      · left; simp
      · right
        obtain ⟨b, off, spot⟩ := a
        obtain ⟨e1, e2⟩ := cellOf_plain (hcell 0 (by omega))
        have hspot : spot = none := by simpa [Addr.add] using e1
        subst hspot
        refine ⟨b, off, rfl, by simpa [Addr.add] using e2, fun i hi => ?_⟩
        have h1 := hcell i (by omega)
        rw [addOf_plain] at h1
        rw [h1, List.getElem?_take, if_pos (by omega), List.getD_eq_getElem?_getD]
    · rw [hx] at hs
      have hk := hs ((zs.length) * 8) (by
        simp only [DataW.weights, Tryd.underlying24, DataW.weightsEach, List.map, Tryd.underlying22, List.append_nil, List.mem_cons, List.mem_append, Tryd.bytesBits, lits, List.length_map, List.length_take, List.length_drop]
        refine .inr (.inr (.inl ?_))
        omega)
      simp only [reachBytes] at hk
      omega

theorem Tryd.cellsPl : Tryd.prog.cellsOf 43 = 4 := by kernel_rfl

set_option maxRecDepth 20000 in
theorem open_place {H : Type} {enc : TypeId × Value → H} {W : World} {base : Nat} {v : Value} {d : DataW H} {p : List MemPlace} (hval : Value.okWide Tryd.prog W .any base 43 v) (h : DataW.Trod enc Tryd.prog W 0 (fun _ => true) true 43 v d p) :
    ∃ (i k r c : Int), v = .agg #[.int .i64 i, .int .i64 k, .int .i64 r, .int .i64 c] ∧ (-9223372036854775808 ≤ i ∧ i ≤ 9223372036854775807) ∧ (-9223372036854775808 ≤ k ∧ k ≤ 9223372036854775807) ∧ (-9223372036854775808 ≤ r ∧ r ≤ 9223372036854775807) ∧ (-9223372036854775808 ≤ c ∧ c ≤ 9223372036854775807) := by
  obtain ⟨c0, c1, c2, c3, y0, y1, y2, y3, m, rfl, rfl, rfl, hy0, hy1, hy2, hy3⟩ := open_agg4 Tryd.underlying43 (by kernel_rfl) Tryd.cellsPl hval h
  obtain ⟨i, e0, _, w0⟩ := DataW.trod_int Tryd.underlying3 hy0
  simp at e0
  subst e0
  obtain ⟨k, e1, _, w1⟩ := DataW.trod_int Tryd.underlying3 hy1
  simp at e1
  subst e1
  obtain ⟨r, e2, _, w2⟩ := DataW.trod_int Tryd.underlying3 hy2
  simp at e2
  subst e2
  obtain ⟨c, e3, _, w3⟩ := DataW.trod_int Tryd.underlying3 hy3
  simp at e3
  subst e3
  exact ⟨i, k, r, c, rfl, bounds_of_i64 w0, bounds_of_i64 w1, bounds_of_i64 w2, bounds_of_i64 w3⟩

end Go.Proofs.YtheepcdlakjdcaaDoor

namespace Go.Proofs.YtheepcdlakjdcaaDoor
open Go.ChangeShapes Go.WideShapes Go.ChangeAt Go.RowKit

set_option maxRecDepth 100000 in
theorem matrixParts_contract (H : Type) (enc : TypeId × Value → H) (W : World) (base : Nat) (args : Array Value) (ds gs : List (DataW H)) (before : List MemPlace)
    (hval : ∀ (j : Nat) t v, Tryd.f5.params[j]? = some t → args[j]? = some v → Value.okWide Tryd.prog W .any base t v)
    (hW : DataW.Whole enc Tryd.prog Tryd.f5.params.toList Rows.matrixPartsSpec.vars false W args.toList ds gs before)
    (hsz0 : (DataW.weightsEach Tryd.prog (Tryd.f5.params.toList ++ (OpenSpec.ofChange Rows.matrixPartsSpec).bare.plain.varTypes Tryd.prog) (ds ++ gs)).all (· ≤ reachBytes) = true) (hLd : laidMetH Tryd.prog Rows.matrixPartsRow.laid W) :
    Calls Tryd.prog 5 args W fun e W' => ∃ v, e = .returned v ∧ Rows.matrixPartsSpec.post enc Tryd.prog Tryd.f5 false true false false W args v W' := by
  have hT : Tab W := tab_of_laid hLd
  have hsz : (DataW.weightsEach Tryd.prog (Tryd.f5.params.toList ++ (OpenSpec.ofChange Rows.matrixPartsSpec).bare.plain.varTypes Tryd.prog) (ds ++ gs)).all (· ≤ reachBytes) = true := hsz0
  have hW' := hW
  obtain ⟨p, q, hA0, hV, rfl, hfz, hnd⟩ := hW
  have hA : DataW.TrodAll enc Tryd.prog W 0 (fun _ => true) true Tryd.f5.params.toList args.toList ds p := hA0
  rw [Tryd.params5] at hA hval hsz
  obtain ⟨v0, vs0, d0, ds0, p0, q0, hargs, rfl, rfl, h0, r0⟩ := trodAll_cons hA
  obtain ⟨v1, vs1, d1, ds1, p1, q1, rfl, rfl, rfl, h1, r1⟩ := trodAll_cons r0
  obtain ⟨rfl, rfl, rfl⟩ := trodAll_nil r1
  obtain rfl : args = #[v0, v1] := by cases args; simp_all
  obtain ⟨rfl, rfl⟩ := trodVars_none hV
  have k0 := h0
  have lt0 : ∀ x ∈ p0, x.block < W.heap.size := by obtain ⟨m, hm⟩ := k0; exact DataW.trod_lt m _ _ _ hm
  obtain ⟨x0, z0, a0, c0, L0, rfl, hL0, hl0, wr0, wc0⟩ := open_matrix (hval 0 24 v0 rfl rfl) h0 (fun n hn => of_decide_eq_true (List.all_eq_true.1 hsz n (DataW.weights_mem_each (j := 0) rfl rfl n hn)))
  have k1 := h1
  have lt1 : ∀ x ∈ p1, x.block < W.heap.size := by obtain ⟨m, hm⟩ := k1; exact DataW.trod_lt m _ _ _ hm
  obtain ⟨pi1, pk1, pr1, pc1, rfl, qi1, qk1, qr1, qc1⟩ := open_place (hval 1 43 v1 rfl rfl) h1
  clear hA0
  refine (matrixParts_walk x0 z0 a0 c0 L0 pi1 pk1 pr1 pc1 W hL0 hl0 wr0 wc0 qi1 qk1 qr1 qc1 hT).mono fun e W' ⟨he, bel⟩ => ?_
  subst he
  exact ⟨_, rfl, _, _, _, [], _, [], hW', trodAll_mk1 (shut_bool Tryd.underlying4 _), trodAll_cons_mk (Below.trod Tryd.laidOut (by kernel_rfl) (of_decide_eq_true (by kernel_rfl)) k0 bel lt0) (trodAll_cons_mk (Below.trod Tryd.laidOut (by kernel_rfl) (of_decide_eq_true (by kernel_rfl)) k1 bel lt1) (trodAll_mk0)), rfl, bel.frame _, fun h => by cases h⟩

/-- A world for the witness: the table holds what its initialiser lays. -/
noncomputable def matrixParts_world (os : Os) : World :=
  { World.holding Tryd.prog os ⟨#[], #[], []⟩ with heap := (World.holding Tryd.prog os ⟨#[], #[], []⟩).heap.modify 0 fun
      | .cells _ t frozen => .cells (Lib.deBruijn32tab.map fun z : Nat => Value.int .u8 (z : Int)).toArray t frozen
      | o => o }
theorem matrixParts_met (os : Os) : laidMet Tryd.prog Rows.matrixPartsRow.laid ((matrixParts_world os).forCall (fun _ _ => 0) ⟨#[], #[.agg #[.int .i64 0, .int .i64 0, .slice none 0 0], .agg #[.int .i64 0, .int .i64 0, .int .i64 0, .int .i64 0]], []⟩).memory :=
  laidMet_of_run' 8 (by kernel_rfl) (by kernel_rfl)
theorem matrixParts_reads (os : Os) {H : Type} (enc : TypeId × Value → H) : ∃ places, DataW.whole enc Tryd.prog ((matrixParts_world os).forCall (fun _ _ => 0) ⟨#[], #[.agg #[.int .i64 0, .int .i64 0, .slice none 0 0], .agg #[.int .i64 0, .int .i64 0, .int .i64 0, .int .i64 0]], []⟩).memory Tryd.f5.params.toList Rows.matrixPartsSpec.vars false #[.agg #[.int .i64 0, .int .i64 0, .slice none 0 0], .agg #[.int .i64 0, .int .i64 0, .int .i64 0, .int .i64 0]].toList 8 = some ([.agg [.lit (.int .i64 0), .lit (.int .i64 0), .nil], .agg [.lit (.int .i64 0), .lit (.int .i64 0), .lit (.int .i64 0), .lit (.int .i64 0)]], [], places) :=
  ⟨[], by kernel_rfl⟩

set_option maxRecDepth 100000 in
theorem matrixParts_lifted (os : Os) (started : os.Started) (H : Type) (enc : TypeId × Value → H) (F : Stop.Interp) :
    ReturnsInHanded {} Tryd.checked os 5 .any ((OpenSpec.ofChange Rows.matrixPartsSpec).preRow enc Tryd.prog Tryd.f5 Rows.matrixPartsRow.domain false Rows.matrixPartsRow.laid) (((OpenSpec.ofChange Rows.matrixPartsSpec).at F).post enc Tryd.prog Tryd.f5 false true false false) := by
  obtain ⟨places, hx⟩ := matrixParts_reads os enc
  refine returnsInHanded_of_row (C := Tryd.checked) (s := OpenSpec.ofChange Rows.matrixPartsSpec) Tryd.own started (by kernel_rfl) Tryd.func5
    (witness_row_at (enc := enc) (C := Tryd.checked) false (matrixParts_world os) #[.agg #[.int .i64 0, .int .i64 0, .slice none 0 0], .agg #[.int .i64 0, .int .i64 0, .int .i64 0, .int .i64 0]] rfl (by kernel_rfl) (by kernel_rfl) (by kernel_rfl)
      (OpenSpec.preRow_of_cond 8 hx (by kernel_rfl) (fun k hk => by cases hk) (by kernel_rfl) (matrixParts_met os))) ?_
  intro W base args ds gs before hval hW _ _ hsz hL _ _
  exact matrixParts_contract H enc W base args ds gs before hval hW hsz hL

theorem matrixParts_said : Rows.MatrixPartsSaid :=
  OpenClaim.holds_of_cond 5 Tryd.f5 rfl rfl rfl rfl rfl rfl rfl ⟨rfl, rfl, rfl, rfl, rfl⟩ rfl rfl rfl rfl rfl (by kernel_rfl) Tryd.func5 (by kernel_rfl)
    (of_decide_eq_true (by kernel_rfl)) (by unfold Func.isWrapper; first | (rw [if_pos (by decide +kernel)]; kernel_rfl) | (rw [if_neg (by decide +kernel)]; exact ⟨rfl, rfl⟩))
    (fun os started H enc _ F => by rw [OpenClaim.pre_eq_preRow]; exact matrixParts_lifted os started H enc F)

theorem matrixParts_plain (f : FuncId) (fn : Func) (hf : Tryd.pinned.checked.prog.funcNamed "dioptra/dioptralaw10.MatrixParts" = some f) (hfn : Tryd.pinned.checked.prog.funcs[f]? = some fn) :
    false = Tryd.pinned.checked.prog.looks [] ∧ ∀ (j : Nat) t, fn.params[j]? = some t → Tryd.pinned.checked.prog.wantsStandIn t = false := by
  obtain rfl : f = 5 := Option.some.inj ((show Tryd.prog.funcNamed "dioptra/dioptralaw10.MatrixParts" = some 5 by kernel_rfl).symm.trans hf) |>.symm
  obtain rfl : fn = Tryd.f5 := (Option.some.inj (Tryd.func5.symm.trans hfn)).symm
  refine ⟨by kernel_rfl, fun j t ht => ?_⟩
  rw [Tryd.params5] at ht
  have hm : t ∈ [24, 43] := by simpa using Array.mem_of_getElem? ht
  have hall : ([24, 43].all fun u => !Tryd.prog.wantsStandIn u) = true := by kernel_rfl
  exact (show Tryd.prog.wantsStandIn t = false by simpa using List.all_eq_true.1 hall t hm)

/-- The statement: the row, with the library's table tied to the program's text. -/
theorem matrixParts_card : Rows.MatrixPartsCardSaid :=
  Claim7.holds_tied_plain_at .later [] _ _ _ _ matrixParts_said (fun _ h => by cases h) (by kernel_rfl) (fun _ h => by cases h) matrixParts_row_tie rfl ⟨rfl, rfl⟩ (by kernel_rfl) rfl matrixParts_plain (by kernel_rfl)
#print axioms matrixParts_card

end Go.Proofs.YtheepcdlakjdcaaDoor

