/- CompareScales holds: of any number and any power of two Scale tells what the reference and Go's own math.Ldexp tell, with its flags, and the program is awake; under the condition that the library's table deBruijn32tab holds what its initialiser lays, which the card ties to the program's text (of this seat's pruned copy); nothing that was there is changed. -/
import Derived.Test.YtpaikdlhkdgkpaaDoorPart23
import Derived.Test.YtpaikdlhkdgkpaaDoorRows
import Derived.Test.YtpaikdlhkdgkpaaDoorPart10
import Derived.Lib.LaidTab
import Derived.OpenShut
import Derived.Deep.DeepHandedRow
import Derived.Test.YtpaikdlhkdgkpaaDoorCards
import Derived.Test.YtpaikdlhkdgkpaaDoorTie
/- The bounds of an int or int64 that came in. -/
namespace Go.Proofs.YtpaikdlhkdgkpaaDoor

theorem bounds_of_i64 {x : Int} (h : (Lit.int .i64 x).wf = true) : -9223372036854775808 ≤ x ∧ x ≤ 9223372036854775807 := by
  simp [Lit.wf, IntKind.min, IntKind.max, IntKind.signed, IntKind.bits] at h
  omega

end Go.Proofs.YtpaikdlhkdgkpaaDoor

/- A dyadic number that came in, opened; the library's table, as the row lays it. -/
namespace Go.Proofs.YtpaikdlhkdgkpaaDoor
open Go.ChangeShapes Go.WideShapes Go.ChangeAt Go.RowKit Go.Joins

theorem Tryd.cellsD : Tryd.prog.cellsOf 58 = 3 := by kernel_rfl
theorem Tryd.cellsI : Tryd.prog.cellsOf 3 = 1 := by kernel_rfl
theorem Tryd.cellsB : Tryd.prog.cellsOf 4 = 1 := by kernel_rfl
theorem Tryd.cellsS : Tryd.prog.cellsOf 44 = 1 := by kernel_rfl

theorem Tryd.tabName : Tryd.prog.globalNamed "math/bits.deBruijn32tab" = some 1 := by kernel_rfl
theorem Tryd.tabType : (Tryd.prog.globals[1]?).map (·.type) = some 114 := by kernel_rfl
theorem Tryd.tabCells : Tryd.prog.cellsOf 114 = 32 := by kernel_rfl
theorem Tryd.byteCells : Tryd.prog.cellsOf 5 = 1 := by kernel_rfl

theorem tab_getD : ∀ j, j < Lib.deBruijn32tab.length → (List.map Int.ofNat Lib.deBruijn32tab).getD j 0 = ((Lib.deBruijn32tab.getD j 0 : Nat) : Int) := by decide

/-- What the rows' list gives: the table's cells. -/
theorem tab_of_laid {W : World} (h : laidMetH Tryd.prog [("math/bits.deBruijn32tab", Rows.laid_math_bits_deBruijn32tab)] W) : Tab W := by
  have ht := Lib.tabIs_of_head (zs := Lib.deBruijn32tab.map Int.ofNat) (rest := []) Tryd.tabName Tryd.tabType Tryd.underlying114 Tryd.underlying5 Tryd.byteCells Tryd.tabCells h
  intro j hj
  have := ht.cell Tryd.tabName j (by simpa using hj)
  rw [this]
  congr 2
  exact tab_getD j hj

set_option maxRecDepth 20000 in
/-- A dyadic number that came in. -/
theorem open_dyadic {H : Type} {enc : TypeId × Value → H} {W : World} {base : Nat} {v : Value} {d : DataW H} {p : List MemPlace} (hval : Value.okWide Tryd.prog W .any base 58 v) (h : DataW.Trod enc Tryd.prog W 0 (fun _ => true) true 58 v d p)
    (hs : ∀ n ∈ d.weights Tryd.prog 58, n ≤ reachBytes) :
    ∃ (neg : Bool) (ao : Option Addr) (cap : Nat) (L : List Nat) (e : Int), v = .agg #[.bool neg, .slice ao L.length cap, .int .i64 e] ∧ LimbsAt W ao cap L ∧ L.length ≤ 35184372087808 ∧ (-9223372036854775808 ≤ e ∧ e ≤ 9223372036854775807) := by
  obtain ⟨cs, rfl, hsz⟩ := okWide_struct Tryd.underlying58 hval
  obtain ⟨c0, c1, c2, rfl⟩ := array3 (hsz.trans Tryd.cellsD)
  obtain ⟨fuel, hf⟩ := h
  obtain ⟨y0, y1, n, hx, _, h0, h1⟩ := trod_struct2 Tryd.underlying58 hf
  simp only [Prod.mk.injEq] at hx
  obtain ⟨rfl, rfl⟩ := hx
  have h0' : DataW.trod enc Tryd.prog W 0 (fun _ => true) true n 46 [c0, c1] = some y0 := by simpa [Value.cells, Tryd.cellsW] using h0
  have h1' : DataW.trod enc Tryd.prog W 0 (fun _ => true) true n 3 [c2] = some y1 := by simpa [Value.cells, Tryd.cellsI] using h1
  clear h0 h1
  obtain ⟨e, e1, e2, we⟩ := DataW.trod_int Tryd.underlying3 h1'
  simp at e1
  subst e1
  obtain ⟨z0, z1, m, hz, _, g0, g1⟩ := trod_struct2 Tryd.underlying46 h0'
  subst hz
  have g0' : DataW.trod enc Tryd.prog W 0 (fun _ => true) true m 4 [c0] = some z0 := by simpa [Tryd.cellsB] using g0
  have g1' : DataW.trod enc Tryd.prog W 0 (fun _ => true) true m 44 [c1] = some z1 := by simpa [Tryd.cellsS] using g1
  clear g0 g1
  obtain ⟨neg, e0, _⟩ := DataW.trod_bool Tryd.underlying4 g0'
  simp at e0
  subst e0
  have be := bounds_of_i64 we
  rcases open_ints Tryd.underlying44 Tryd.underlying74 Tryd.cellsU g1' with ⟨hcs, _⟩ | ⟨a, len, cap, zs, hcs, _, hl, hm, hzz, rfl, hcell, hwz⟩
  · simp at hcs
    subst hcs
    exact ⟨neg, none, 0, [], e, rfl, LimbsAt.nil _ _ _, by simp, be⟩
  · simp at hcs
    subst hcs
    obtain ⟨l1, l2⟩ := limbs_of_ints hl (by simpa using hzz) hcell hwz
    refine ⟨neg, some a, cap, _, e, by rw [l2], l1, ?_, be⟩
    have hk := hs ((zs.length) * 4) (by
      simp only [DataW.weights, Tryd.underlying58, Tryd.underlying46, DataW.weightsEach, List.map, Tryd.underlying44, List.append_nil, List.mem_cons, List.mem_append, Tryd.bytesU, lits, List.length_map, List.length_take, List.length_drop]
      refine .inl (.inr (.inl ?_))
      have : zs.length = cap := by simpa using hzz
      omega)
    simp only [reachBytes] at hk
    rw [l2]
    have : zs.length = cap := by simpa using hzz
    omega

end Go.Proofs.YtpaikdlhkdgkpaaDoor

/- Bits that came in. -/
namespace Go.Proofs.YtpaikdlhkdgkpaaDoor
open Go.ChangeShapes Go.WideShapes Go.ChangeAt Go.RowKit

theorem nat_of_u64 {n : Int} (h : (Lit.int .u64 n).wf = true) : ∃ m : Nat, n = (m : Int) ∧ m < 18446744073709551616 := by
  simp [Lit.wf, IntKind.min, IntKind.max, IntKind.signed, IntKind.bits] at h
  exact ⟨n.toNat, by omega, by omega⟩

end Go.Proofs.YtpaikdlhkdgkpaaDoor

namespace Go.Proofs.YtpaikdlhkdgkpaaDoor
open Go.ChangeShapes Go.WideShapes Go.ChangeAt Go.RowKit

set_option maxRecDepth 100000 in
theorem compareScales_contract (H : Type) (enc : TypeId × Value → H) (W : World) (base : Nat) (args : Array Value) (ds gs : List (DataW H)) (before : List MemPlace)
    (hval : ∀ (j : Nat) t v, Tryd.f4.params[j]? = some t → args[j]? = some v → Value.okWide Tryd.prog W .any base t v)
    (hW : DataW.Whole enc Tryd.prog Tryd.f4.params.toList Rows.compareScalesSpec.vars false W args.toList ds gs before)
    (hsz0 : (DataW.weightsEach Tryd.prog (Tryd.f4.params.toList ++ (OpenSpec.ofChange Rows.compareScalesSpec).bare.plain.varTypes Tryd.prog) (ds ++ gs)).all (· ≤ reachBytes) = true) (hLd : laidMetH Tryd.prog Rows.compareScalesRow.laid W) :
    Calls Tryd.prog 4 args W fun e W' => ∃ v, e = .returned v ∧ Rows.compareScalesSpec.post enc Tryd.prog Tryd.f4 false true false false W args v W' := by
  have hT : Tab W := tab_of_laid hLd
  have _hsz : (DataW.weightsEach Tryd.prog (Tryd.f4.params.toList ++ (OpenSpec.ofChange Rows.compareScalesSpec).bare.plain.varTypes Tryd.prog) (ds ++ gs)).all (· ≤ reachBytes) = true := hsz0
  have hW' := hW
  obtain ⟨p, q, hA0, hV, rfl, hfz, hnd⟩ := hW
  have hA : DataW.TrodAll enc Tryd.prog W 0 (fun _ => true) true Tryd.f4.params.toList args.toList ds p := hA0
  rw [Tryd.params4] at hA hval
  obtain ⟨v0, vs0, d0, ds0, p0, q0, hargs, rfl, rfl, h0, r0⟩ := trodAll_cons hA
  obtain ⟨v1, vs1, d1, ds1, p1, q1, rfl, rfl, rfl, h1, r1⟩ := trodAll_cons r0
  obtain ⟨rfl, rfl, rfl⟩ := trodAll_nil r1
  obtain rfl : args = #[v0, v1] := by cases args; simp_all
  obtain ⟨rfl, rfl⟩ := trodVars_none hV
  obtain ⟨x0, rfl, rfl, rfl, w0⟩ := open_int Tryd.underlying23 (hval 0 23 v0 rfl rfl) h0
  obtain ⟨y0, hy0, hb0⟩ := nat_of_u64 w0
  subst hy0
  obtain ⟨x1, rfl, rfl, rfl, w1⟩ := open_int Tryd.underlying3 (hval 1 3 v1 rfl rfl) h1
  clear hA0
  refine (compareScales_walk y0 x1 W hb0 hT).mono fun e W' ⟨he, bel⟩ => ?_
  subst he
  exact ⟨_, rfl, _, _, _, [], _, [], hW', trodAll_mk1 (shut_bool Tryd.underlying4 _), trodAll_cons_mk (shut_int Tryd.underlying23 w0) (trodAll_cons_mk (shut_int Tryd.underlying3 w1) (trodAll_mk0)), rfl, bel.frame _, fun h => by cases h⟩

/-- A world for the witness: the table holds what its initialiser lays. -/
noncomputable def compareScales_world (os : Os) : World :=
  { World.holding Tryd.prog os ⟨#[], #[], []⟩ with heap := (World.holding Tryd.prog os ⟨#[], #[], []⟩).heap.modify 1 fun
      | .cells _ t frozen => .cells (Lib.deBruijn32tab.map fun z : Nat => Value.int .u8 (z : Int)).toArray t frozen
      | o => o }
theorem compareScales_met (os : Os) : laidMet Tryd.prog Rows.compareScalesRow.laid ((compareScales_world os).forCall (fun _ _ => 0) ⟨#[], #[.int .u64 0, .int .i64 0], []⟩).memory :=
  laidMet_of_run' 8 (by kernel_rfl) (by kernel_rfl)
theorem compareScales_reads (os : Os) {H : Type} (enc : TypeId × Value → H) : ∃ places, DataW.whole enc Tryd.prog ((compareScales_world os).forCall (fun _ _ => 0) ⟨#[], #[.int .u64 0, .int .i64 0], []⟩).memory Tryd.f4.params.toList Rows.compareScalesSpec.vars false #[.int .u64 0, .int .i64 0].toList 8 = some ([.lit (.int .u64 0), .lit (.int .i64 0)], [], places) :=
  ⟨[], by kernel_rfl⟩

set_option maxRecDepth 100000 in
theorem compareScales_lifted (os : Os) (started : os.Started) (H : Type) (enc : TypeId × Value → H) (F : Stop.Interp) :
    ReturnsInHanded {} Tryd.checked os 4 .any ((OpenSpec.ofChange Rows.compareScalesSpec).preRow enc Tryd.prog Tryd.f4 Rows.compareScalesRow.domain false Rows.compareScalesRow.laid) (((OpenSpec.ofChange Rows.compareScalesSpec).at F).post enc Tryd.prog Tryd.f4 false true false false) := by
  obtain ⟨places, hx⟩ := compareScales_reads os enc
  refine returnsInHanded_of_row (C := Tryd.checked) (s := OpenSpec.ofChange Rows.compareScalesSpec) Tryd.own started (by kernel_rfl) Tryd.func4
    (witness_row_at (enc := enc) (C := Tryd.checked) false (compareScales_world os) #[.int .u64 0, .int .i64 0] rfl (by kernel_rfl) (by kernel_rfl) (by kernel_rfl)
      (OpenSpec.preRow_of_cond 8 hx (by kernel_rfl) (fun k hk => by cases hk) (by kernel_rfl) (compareScales_met os))) ?_
  intro W base args ds gs before hval hW _ _ hsz hL _ _
  exact compareScales_contract H enc W base args ds gs before hval hW hsz hL

theorem compareScales_said : Rows.CompareScalesSaid :=
  OpenClaim.holds_of_cond 4 Tryd.f4 rfl rfl rfl rfl rfl rfl rfl ⟨rfl, rfl, rfl, rfl, rfl⟩ rfl rfl rfl rfl rfl (by kernel_rfl) Tryd.func4 (by kernel_rfl)
    (of_decide_eq_true (by kernel_rfl)) (by unfold Func.isWrapper; first | (rw [if_pos (by decide +kernel)]; kernel_rfl) | (rw [if_neg (by decide +kernel)]; exact ⟨rfl, rfl⟩))
    (fun os started H enc _ F => by rw [OpenClaim.pre_eq_preRow]; exact compareScales_lifted os started H enc F)

theorem compareScales_plain (f : FuncId) (fn : Func) (hf : Tryd.pinned.checked.prog.funcNamed "dioptra/dioptralaw08.CompareScales" = some f) (hfn : Tryd.pinned.checked.prog.funcs[f]? = some fn) :
    false = Tryd.pinned.checked.prog.looks [] ∧ ∀ (j : Nat) t, fn.params[j]? = some t → Tryd.pinned.checked.prog.wantsStandIn t = false := by
  obtain rfl : f = 4 := Option.some.inj ((show Tryd.prog.funcNamed "dioptra/dioptralaw08.CompareScales" = some 4 by kernel_rfl).symm.trans hf) |>.symm
  obtain rfl : fn = Tryd.f4 := (Option.some.inj (Tryd.func4.symm.trans hfn)).symm
  refine ⟨by kernel_rfl, fun j t ht => ?_⟩
  rw [Tryd.params4] at ht
  have hm : t ∈ [23, 3] := by simpa using Array.mem_of_getElem? ht
  have hall : ([23, 3].all fun u => !Tryd.prog.wantsStandIn u) = true := by kernel_rfl
  exact (show Tryd.prog.wantsStandIn t = false by simpa using List.all_eq_true.1 hall t hm)

/-- The statement: the row, with the library's table tied to the program's text. -/
theorem compareScales_card : Rows.CompareScalesCardSaid :=
  Claim7.holds_tied_plain_at .later [] _ _ _ _ compareScales_said (fun _ h => by cases h) (by kernel_rfl) (fun _ h => by cases h) compareScales_row_tie rfl ⟨rfl, rfl⟩ (by kernel_rfl) rfl compareScales_plain (by kernel_rfl)
#print axioms compareScales_card

end Go.Proofs.YtpaikdlhkdgkpaaDoor

