/- Part 34 of the texts. -/
import Derived.Test.YtimejpbmehegeaaGreatDoorParta33
import Derived.Test.YtimejpbmehegeaaGreatDoorParta31
import Derived.Test.YtimejpbmehegeaaGreatDoorParta30
import Derived.Deep.RegionLaw
import Derived.Deep.RegionWith
import Derived.Laws.CopyOwn
import Derived.Test.YtimejpbmehegeaaGreatDoorParta27
import Derived.Deep.RegionHeld3
import Derived.Test.YtimejpbmehegeaaGreatDoorParta29
import Derived.Test.YtimejpbmehegeaaGreatDoorParta32
import Derived.Test.YtimejpbmehegeaaGreatDoorParta16
import Derived.Test.YtimejpbmehegeaaGreatDoorParta17
import Derived.Test.YtimejpbmehegeaaGreatDoorParta18
import Derived.Deep.Cut
import Derived.BigQuiet
import Derived.Test.YtimejpbmehegeaaGreatDoorParta28
import Derived.Test.YtimejpbmehegeaaGreatDoorParta08
import Derived.Deep.CutRange
import Derived.Test.YtimejpbmehegeaaGreatDoorChecked
import Derived.Test.YtimejpbmehegeaaGreatDoorParta02
import Derived.ProofKit
import Derived.SizedLaws
import Derived.Lib.SmallJoins
import Derived.Test.YtimejpbmehegeaaGreatDoorRows
import Derived.Test.YtimejpbmehegeaaGreatDoorParta11
import Derived.Lib.LaidTab
import Derived.OpenShut
import Derived.Deep.DeepHandedRow
import Derived.Test.YtimejpbmehegeaaGreatDoorParta26
/- The laws of layer 13, walked. -/
namespace Go.Proofs.YtimejpbmehegeaaGreatDoor
open Go.RowKit

/-- What Make answers, at any later time. -/
theorem house_cm (w : World) (hT : Tab w) : ∀ w' ao c I, Below w.heap.size w w' → BitsAt w' ao c I → 1 ≤ I.length → I.length ≤ 64 → fnK I I.length = true → mrK (toN I) = true → Calls Tryz.prog 8 #[.slice ao I.length c] w' fun e w'' => ∃ vo vc, e = .returned (.tuple #[.slice vo I.length vc, .int .u64 (mrT (toN I) : Nat), .int .u64 (mrB (toN I) : Nat), .int .i64 0]) ∧ BitsAt w'' vo vc (mxL (mrV (toN I))) ∧ Below w'.heap.size w' w'' := by
  intro w' ao c I hb hI h1 h2 hf hk
  refine (hMake_ok ao c I w' hI h1 h2 hf hk (hT.all hb)).mono ?_
  rintro e w'' ⟨vo, vc, rfl, _, hv, hb2⟩
  exact ⟨vo, vc, rfl, hv, hb2⟩

theorem house_ca (w : World) (hT : Tab w) : ∀ w', Below w.heap.size w w' → Calls Tryz.prog 12 #[] w' fun e w'' => e = .returned (.bool true) ∧ Below w'.heap.size w' w'' := by
  intro w' hb
  have hT' := hT.all hb
  refine awake13_of (mrT [4613937818241073152, 4616189618054758400]) w' (fun w2 ao hb2 hI => ?_)
  obtain ⟨e1, e2, e3⟩ := mr_345
  have hn : toN [((4613937818241073152 : Nat) : Int), ((4616189618054758400 : Nat) : Int)] = [4613937818241073152, 4616189618054758400] := rfl
  have hf : fnK [((4613937818241073152 : Nat) : Int), ((4616189618054758400 : Nat) : Int)] 2 = true := by
    show ((true && fFin 4613937818241073152) && fFin 4616189618054758400) = true
    rw [w13_facts.2.1, w13_facts.2.2.2.2.2.2.2.2.2.2.2.2]
    rfl
  have M := house_cm w' hT' w2 ao 2 [((4613937818241073152 : Nat) : Int), ((4616189618054758400 : Nat) : Int)] hb2 hI (by decide) (by decide) hf (by rw [hn, e3])
  rw [hn, e1, e2] at M
  exact M

theorem houseMakes_walk (ao : Option Addr) (c : Nat) (I : List Int) (w : World) (hI : BitsAt w ao c I) (hi : I.length ≤ 17592186043904) (hT : Tab w) :
    Calls Tryz.prog 3 #[.slice ao I.length c] w fun r w' => r = .returned (.bool true) ∧ Below w.heap.size w w' :=
  houseMakes_by ao c I w hI hi (fun w' ao c _ _ h => hMake_shape ao c I w' h) (fun w' ao c _ hI h1 h2 hf => hMake_inf ao c I w' hI h1 h2 hf) (fun w' ao c hb hI h1 h2 hf hk => hMake_none ao c I w' hI h1 h2 hf hk (hT.all hb)) (fun w' ao c hb hI h1 h2 hf hk => hMake_ok ao c I w' hI h1 h2 hf hk (hT.all hb)) (house_ca w hT)

end Go.Proofs.YtimejpbmehegeaaGreatDoor

/- A struct of a sign and limbs that came in, opened. -/
namespace Go.Proofs.YtimejpbmehegeaaGreatDoor
open Go.ChangeShapes Go.WideShapes Go.ChangeAt Go.RowKit Go.Joins

theorem Tryz.own : ownKnob Tryz.prog.godebug = none := by kernel_rfl
theorem Tryz.laidOut : laidOutB Tryz.prog = true := by kernel_rfl
end Go.Proofs.YtimejpbmehegeaaGreatDoor

/- A dyadic number that came in, opened; the library's table, as the row lays it. -/
namespace Go.Proofs.YtimejpbmehegeaaGreatDoor
open Go.ChangeShapes Go.WideShapes Go.ChangeAt Go.RowKit Go.Joins
theorem Tryz.tabName : Tryz.prog.globalNamed "math/bits.deBruijn32tab" = some 1 := by kernel_rfl
theorem Tryz.tabType : (Tryz.prog.globals[1]?).map (·.type) = some 174 := by kernel_rfl
theorem Tryz.tabCells : Tryz.prog.cellsOf 174 = 32 := by kernel_rfl
theorem Tryz.byteCells : Tryz.prog.cellsOf 5 = 1 := by kernel_rfl

theorem tab_getD : ∀ j, j < Lib.deBruijn32tab.length → (List.map Int.ofNat Lib.deBruijn32tab).getD j 0 = ((Lib.deBruijn32tab.getD j 0 : Nat) : Int) := by decide

/-- What the rows' list gives: the table's cells. -/
theorem tab_of_laid {W : World} (h : laidMetH Tryz.prog [("math/bits.deBruijn32tab", Rows.laid_math_bits_deBruijn32tab)] W) : Tab W := by
  have ht := Lib.tabIs_of_head (zs := Lib.deBruijn32tab.map Int.ofNat) (rest := []) Tryz.tabName Tryz.tabType Tryz.underlying174 Tryz.underlying5 Tryz.byteCells Tryz.tabCells h
  intro j hj
  have := ht.cell Tryz.tabName j (by simpa using hj)
  rw [this]
  congr 2
  exact tab_getD j hj

end Go.Proofs.YtimejpbmehegeaaGreatDoor

/- A list of bits that came in, opened. -/
namespace Go.Proofs.YtimejpbmehegeaaGreatDoor
open Go.ChangeShapes Go.WideShapes Go.ChangeAt Go.RowKit Go.Joins Go.Deep

theorem Tryz.cellsBits : Tryz.prog.cellsOf 24 = 1 := by kernel_rfl
theorem Tryz.bytesBits : Tryz.prog.bytesOf 24 = 8 := by kernel_rfl

theorem cellOf_plain {W : World} {a : Addr} {v : Value} (h : W.cell? a = some v) : a.spot = none ∧ a.block < W.heap.size := ⟨World.cell?_spot h, World.block_lt_of_cell? W _ h⟩
theorem addOf_plain (b off i : Nat) : (⟨b, off, none⟩ : Addr).add i = ⟨b, off + i, none⟩ := by simp [Addr.add]

theorem bounds_of_u64 {x : Int} (h : (Lit.int .u64 x).wf = true) : 0 ≤ x ∧ x ≤ 18446744073709551615 := by
  simp [Lit.wf, IntKind.min, IntKind.max, IntKind.signed, IntKind.bits] at h
  omega

end Go.Proofs.YtimejpbmehegeaaGreatDoor

/- A list of bits that came in, opened, with what its bytes allow. -/
namespace Go.Proofs.YtimejpbmehegeaaGreatDoor
open Go.ChangeShapes Go.WideShapes Go.ChangeAt Go.RowKit Go.Joins Go.Deep

set_option maxRecDepth 20000 in
theorem open_bits8 {H : Type} {enc : TypeId × Value → H} {W : World} {base : Nat} {v : Value} {d : DataW H} {p : List MemPlace} (hval : Value.okWide Tryz.prog W .any base 22 v) (h : DataW.Trod enc Tryz.prog W 0 (fun _ => true) true 22 v d p)
    (hs : ∀ n ∈ d.weights Tryz.prog 22, n ≤ reachBytes) : ∃ ao cap I, v = .slice ao I.length cap ∧ BitsAt W ao cap I ∧ I.length ≤ 17592186043904 := by
  obtain ⟨a0, len0, cap0, rfl⟩ := okWide_slice Tryz.underlying22 hval
  obtain ⟨fuel, hf⟩ := h
  rcases open_ints Tryz.underlying22 Tryz.underlying24 Tryz.cellsBits hf with ⟨hcs, _⟩ | ⟨a, len, cap, zs, hcs, _, hl, hm, hz, hx, hcell, hwz⟩
  · simp [Value.cells] at hcs
    obtain ⟨rfl, rfl, rfl⟩ := hcs
    exact ⟨none, 0, [], rfl, ⟨by simp, by simp, .inl rfl⟩, by simp⟩
  · simp [Value.cells] at hcs
    obtain ⟨rfl, rfl, rfl⟩ := hcs
    simp only [Prod.mk.injEq] at hx
    obtain ⟨rfl, -⟩ := hx
    have hzc : zs.length = cap0 := by simpa using hz
    have hk := hs ((zs.length) * 8) (by
      simp only [DataW.weights, Tryz.underlying22, List.mem_cons, Tryz.bytesBits, lits, List.length_map, List.length_take, List.length_drop]
      left
      omega)
    simp only [reachBytes] at hk
    have hlen : (zs.take len0).length = len0 := by simp; omega
    refine ⟨some a, cap0, zs.take len0, by rw [hlen], ⟨by omega, fun x hx => bounds_of_u64 (hwz x (List.mem_of_mem_take hx)), ?_⟩, by omega⟩
    rcases Nat.eq_zero_or_pos len0 with rfl | hp
    · left; simp
    · right
      obtain ⟨b, off, spot⟩ := a
      obtain ⟨e1, e2⟩ := cellOf_plain (hcell 0 (by omega))
      have hspot : spot = none := by simpa [Addr.add] using e1
      subst hspot
      refine ⟨b, off, rfl, by simpa [Addr.add] using e2, fun i hi => ?_⟩
      have h1 := hcell i (by omega)
      rw [addOf_plain] at h1
      rw [h1, List.getElem?_take, if_pos (by omega), List.getD_eq_getElem?_getD]

end Go.Proofs.YtimejpbmehegeaaGreatDoor

