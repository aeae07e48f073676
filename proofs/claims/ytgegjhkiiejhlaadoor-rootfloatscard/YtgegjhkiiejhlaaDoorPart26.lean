/- Part 26 of the texts. -/
import Derived.Test.YtgegjhkiiejhlaaDoorPart24
import Derived.Test.YtgegjhkiiejhlaaDoorPart25
import Derived.Test.YtgegjhkiiejhlaaDoorChecked
import Derived.Test.YtgegjhkiiejhlaaDoorPart02
import Derived.ProofKit
import Derived.SizedLaws
import Derived.Lib.SmallJoins
import Derived.Test.YtgegjhkiiejhlaaDoorRows
import Derived.Test.YtgegjhkiiejhlaaDoorPart12
import Derived.Lib.LaidTab
import Derived.OpenShut
import Derived.Deep.DeepHandedRow
/- awake of layer 7; the laws RootRises, RootFloats, walked. -/
namespace Go.Proofs.YtgegjhkiiejhlaaDoor
open Go.RowKit

theorem two_facts : fFin 4611686018427387904 = true ∧ fK 4611686018427387904 = 2 ∧ fS 4611686018427387904 = false ∧ nS 4611686018427387904 = 9223372036854775808 ∧ nT 4611686018427387904 = 2 := by decide +kernel
theorem rS_odd {N q : Nat} (h1 : q * q < N) (h2 : N < (q + 1) * (q + 1)) : rS N = 2 * q + 1 := by
  have h : isq N = q := isq_unique (Nat.le_of_lt h1) h2
  unfold rS
  rw [h, if_neg (by omega)]
theorem two_digits : tB 4611686018427387904 = 25476206690103091 := by
  unfold tB
  rw [two_facts.2.2.2.1]
  exact rS_odd (q := 12738103345051545) (by decide) (by decide)
theorem two_root : tV 4611686018427387904 = 4609047870845172685 ∧ tF 4611686018427387904 = 1 := by
  obtain ⟨h1, h2⟩ := tB_root 4611686018427387904 (by decide) two_facts.1 (by rw [two_facts.2.1]; decide)
  rw [two_digits, two_facts.2.2.2.2] at h1 h2
  rw [← h1, ← h2]
  decide +kernel
theorem awake7_facts : sV 4611686018427387904 = 4609047870845172685 ∧ sF 4611686018427387904 = 1 := by
  obtain ⟨t1, t2, t3, _⟩ := two_facts
  have e4 : ¬ fK 4611686018427387904 = 4 := by rw [t2]; decide
  have e0 : ¬ (fK 4611686018427387904 = 0 ∨ 4611686018427387904 = 9218868437227405312) := by rw [t2]; decide
  have es : ¬ fS 4611686018427387904 = true := by rw [t3]; decide
  unfold sV sF
  rw [if_neg e4, if_neg e0, if_neg es, if_neg e4, if_neg e0, if_neg es]
  exact two_root

set_option maxRecDepth 20000 in
set_option maxHeartbeats 2000000 in
theorem awake7_any (w : World) (hT : Tab w) : Calls Tryd.prog 11 #[] w fun e w' => e = .returned (.bool true) ∧ Below w.heap.size w w' := by
  have K1 := hide (rsqrt_any 4611686018427387904 w (by decide) hT)
  rw [awake7_facts.1, awake7_facts.2] at K1
  have K2 := hide (fun w' => rwhole_any 16 w' (by decide))
  rw [show isq 16 = 4 by decide, show decide (4 * 4 = 16) = true by decide] at K2
  go_enter Tryd.func11, Tryd.ntmps11
  go_wp2_with fail
  refine Calls.mono (unhide K1) ?_
  rintro e w1 ⟨rfl, hb1⟩
  have B := hide hb1
  clear hb1 K1
  go_wp2_with fail
  refine (unhide K2 _).mono ?_
  rintro e w2 ⟨rfl, hb2⟩
  have B := hide ((unhide B).trans (hb2.mono (unhide B).size))
  clear hb2 K2
  go_wp2
  go_ret
  exact ⟨rfl, unhide B⟩

set_option maxRecDepth 20000 in
set_option maxHeartbeats 2000000 in
theorem float7_any (b : Nat) (w : World) (_h : b < 18446744073709551616) :
    Calls Tryd.prog 17 #[.int .u64 b] w fun r w' => r = .returned (.float .f64 b) ∧ w = w' := by
  have hF := fun W => frombits5 b W
  have hw : IntKind.u64.wrap (b : Int) = (b : Int) := by simp only [IntKind.wrap_u64]; omega
  go_enter Tryd.func17, Tryd.ntmps17
  go_wp2
  go_ret
  exact ⟨rfl, rfl⟩

set_option maxRecDepth 20000 in
set_option maxHeartbeats 8000000 in
theorem rootRises_ways (a b s t : Nat) (f g : Int) (o p : Option Ordering) (w : World)
    (hO : FloatKind.f64.format.order a b = o) (hP : FloatKind.f64.format.order s t = p) (good : goodO o p) (hT : Tab w)
    (C1 : Calls Tryd.prog 12 #[.int .u64 a] w fun r w' => r = .returned (.tuple #[.int .u64 s, .int .u8 f]) ∧ Below w.heap.size w w')
    (C2 : ∀ w', Tab w' → Calls Tryd.prog 12 #[.int .u64 b] w' fun r w'' => r = .returned (.tuple #[.int .u64 t, .int .u8 g]) ∧ Below w'.heap.size w' w'')
    (F1 : ∀ w', Calls Tryd.prog 17 #[.int .u64 a] w' fun r w'' => r = .returned (.float .f64 a) ∧ w' = w'')
    (F2 : ∀ w', Calls Tryd.prog 17 #[.int .u64 b] w' fun r w'' => r = .returned (.float .f64 b) ∧ w' = w'')
    (F3 : ∀ w', Calls Tryd.prog 17 #[.int .u64 s] w' fun r w'' => r = .returned (.float .f64 s) ∧ w' = w'')
    (F4 : ∀ w', Calls Tryd.prog 17 #[.int .u64 t] w' fun r w'' => r = .returned (.float .f64 t) ∧ w' = w'') :
    Calls Tryd.prog 7 #[.int .u64 a, .int .u64 b] w fun r w' => r = .returned (.bool true) ∧ Below w.heap.size w w' := by
  have K1 := hide C1; have K2 := hide C2; have L1 := hide F1; have L2 := hide F2; have L3 := hide F3; have L4 := hide F4
  have K3 := hide (fun w' t => awake7_any w' t)
  clear C1 C2 F1 F2 F3 F4
  go_enter Tryd.func7, Tryd.ntmps7
  go_wp2_with fail
  refine Calls.mono (unhide K1) ?_
  rintro e w1 ⟨rfl, hb1⟩
  have HT := hide (hT.all hb1)
  go_wp2_with fail
  refine (unhide K2 _ (unhide HT)).mono ?_
  rintro e w2 ⟨rfl, hb2⟩
  have B := hide (hb1.trans (hb2.mono hb1.size))
  have HT2 := hide ((unhide HT).all hb2)
  clear hb1 hb2 K1 K2 HT
  go_wp2_with fail
  refine (unhide L1 _).mono ?_
  rintro e w2 ⟨rfl, rfl⟩
  go_wp2_with fail
  refine (unhide L2 _).mono ?_
  rintro e w2 ⟨rfl, rfl⟩
  go_wp2_with fail
  refine (unhide L3 _).mono ?_
  rintro e w2 ⟨rfl, rfl⟩
  go_wp2_with fail
  refine (unhide L4 _).mono ?_
  rintro e w3 ⟨rfl, rfl⟩
  clear L1 L2 L3 L4
  rcases o with _ | _ | _ | _ <;> rcases p with _ | _ | _ | _ <;> first
    | exact absurd rfl (good.1 (Or.inl rfl))
    | exact absurd rfl (good.1 (Or.inr rfl))
    | exact absurd rfl (good.2 (Or.inl rfl))
    | exact absurd rfl (good.2 (Or.inr rfl))
    | (go_wp2_with fail
       refine (unhide K3 _ (unhide HT2)).mono ?_
       rintro e w4 ⟨rfl, hb3⟩
       have B3 := hide ((unhide B).trans (hb3.mono (unhide B).size))
       clear hb3 K3 HT2 B
       go_wp2
       go_ret
       exact ⟨rfl, unhide B3⟩)

theorem rootRises_walk (a b : Nat) (w : World) (ha : a < 18446744073709551616) (hb : b < 18446744073709551616) (hT : Tab w) :
    Calls Tryd.prog 7 #[.int .u64 a, .int .u64 b] w fun r w' => r = .returned (.bool true) ∧ Below w.heap.size w w' :=
  rootRises_ways a b (sV a) (sV b) _ _ _ _ w rfl rfl (rises7_order a b ha hb) hT (rsqrt_any a w ha hT) (fun w' t => rsqrt_any b w' hb t)
    (fun w' => float7_any a w' ha) (fun w' => float7_any b w' hb) (fun w' => float7_any _ w' (sV_lt a ha)) (fun w' => float7_any _ w' (sV_lt b hb))

theorem msqrt_run (x : Nat) (W : World) : (callFunc 41 #[.float .f64 x]).run Tryd.prog W = .ok (.value (.float .f64 (fres (Ieee.double.sqrt x) x x W))) (fwld (Ieee.double.sqrt x) W) := by
  rw [run_callFunc_extern (e := Extern.MathSqrt.sqrt) Tryd.func41 (by kernel_rfl) (by kernel_rfl) (by kernel_rfl) (by kernel_rfl)]
  have e : Extern.MathSqrt.sqrt #[.float .f64 x] = (match Ieee.double.sqrt x with | some r => pure (.float .f64 r) | none => do pure (.float .f64 (← choose (.nanBits .f64 x x)))) := rfl
  rw [e]
  cases h : Ieee.double.sqrt x with
  | some r => rfl
  | none => rfl

set_option maxRecDepth 20000 in
set_option maxHeartbeats 2000000 in
theorem msqrt_any (x : Nat) (o : Option Nat) (w : World) (hS : ∀ W, (callFunc 41 #[.float .f64 x]).run Tryd.prog W = .ok (.value (.float .f64 (fres o x x W))) (fwld o W)) :
    Calls Tryd.prog 16 #[.float .f64 x] w fun r w' => r = .returned (.float .f64 (fres o x x w)) ∧ w' = fwld o w := by
  go_enter Tryd.func16, Tryd.ntmps16
  go_wp2
  go_ret
  exact ⟨rfl, rfl⟩

theorem sV_kind (a : Nat) (h : sN a = false) : fK (sV a) ≠ 4 := by
  have h' := of_decide_eq_false h
  unfold sV
  rw [if_neg (fun e => h' (Or.inl e))]
  split
  · exact fun e => h' (Or.inl e)
  · rename_i h2
    split
    · rename_i h3
      exact absurd (Or.inr ⟨fun e => h2 (Or.inl e), h3⟩) h'
    · intro h4
      have := (fK_rungs _).1.1 h4
      have hr := tV_le a
      unfold fR at this
      omega
theorem canon_sqrt (a : Nat) (w w' : World) (ha : a < 18446744073709551616) :
    Calls Tryd.prog 14 #[.int .u64 (fres (Ieee.double.sqrt a) a a w : Nat)] w' fun r w'' => r = .returned (.int .u64 (sV a : Nat)) ∧ w' = w'' := by
  refine canon_of _ (sV a) a a w w' (sV_lt a ha) (fun h => ?_) (fun r h => ?_)
  · cases e : sN a with
    | true => exact (fsqrt_none a ha e).2
    | false => rw [fsqrt_some a ha e] at h; cases h
  · cases e : sN a with
    | true => rw [(fsqrt_none a ha e).1] at h; cases h
    | false =>
      rw [fsqrt_some a ha e] at h
      exact ⟨(Option.some.inj h).symm, sV_kind a e⟩

set_option maxRecDepth 20000 in
set_option maxHeartbeats 8000000 in
theorem rootFloats_ways (a s : Nat) (f : Int) (o : Option Nat) (w : World) (hT : Tab w)
    (C1 : Calls Tryd.prog 12 #[.int .u64 a] w fun r w' => r = .returned (.tuple #[.int .u64 s, .int .u8 f]) ∧ Below w.heap.size w w')
    (F1 : ∀ w', Calls Tryd.prog 17 #[.int .u64 a] w' fun r w'' => r = .returned (.float .f64 a) ∧ w' = w'')
    (S1 : ∀ w', Calls Tryd.prog 16 #[.float .f64 a] w' fun r w'' => r = .returned (.float .f64 (fres o a a w')) ∧ w'' = fwld o w')
    (N1 : ∀ u w', Calls Tryd.prog 14 #[.int .u64 (fres o a a u : Nat)] w' fun r w'' => r = .returned (.int .u64 s) ∧ w' = w'') :
    Calls Tryd.prog 5 #[.int .u64 a] w fun r w' => r = .returned (.bool true) ∧ Below w.heap.size w w' := by
  have K1 := hide C1; have L1 := hide F1; have M1 := hide N1; have Z1 := hide S1
  have K3 := hide (fun w' t => awake7_any w' t)
  have hB := fun R W => tobits5 R W
  clear C1 F1 N1 S1
  go_enter Tryd.func5, Tryd.ntmps5
  go_wp2_with fail
  refine Calls.mono (unhide K1) ?_
  rintro e w2 ⟨rfl, hb1⟩
  have b3 : Below w2.heap.size w2 (fwld o w2) := below_fwld o w2
  have B := hide (hb1.trans (b3.mono hb1.size))
  have HT2 := hide ((hT.all hb1).all b3)
  clear hb1 K1 b3
  go_wp2_with fail
  refine (unhide L1 _).mono ?_
  rintro e w2 ⟨rfl, rfl⟩
  go_wp2_with fail
  refine (unhide Z1 _).mono ?_
  rintro e w3 ⟨rfl, rfl⟩
  go_wp2_with fail
  refine (unhide M1 _ _).mono ?_
  rintro e w4 ⟨rfl, rfl⟩
  clear L1 M1 Z1
  go_wp2_with fail
  refine (unhide K3 _ (unhide HT2)).mono ?_
  rintro e w4 ⟨rfl, hb3⟩
  have B3 := hide ((unhide B).trans (hb3.mono (unhide B).size))
  clear hb3 K3 HT2 B
  go_wp2
  go_ret
  exact ⟨rfl, unhide B3⟩

theorem rootFloats_walk (a : Nat) (w : World) (ha : a < 18446744073709551616) (hT : Tab w) :
    Calls Tryd.prog 5 #[.int .u64 a] w fun r w' => r = .returned (.bool true) ∧ Below w.heap.size w w' :=
  rootFloats_ways a (sV a) _ (Ieee.double.sqrt a) w hT (rsqrt_any a w ha hT) (fun w' => float7_any a w' ha) (fun w' => msqrt_any a _ w' (fun W => msqrt_run a W)) (fun u w' => canon_sqrt a u w' ha)

end Go.Proofs.YtgegjhkiiejhlaaDoor

/- A struct of a sign and limbs that came in, opened. -/
namespace Go.Proofs.YtgegjhkiiejhlaaDoor
open Go.ChangeShapes Go.WideShapes Go.ChangeAt Go.RowKit Go.Joins

theorem Tryd.own : ownKnob Tryd.prog.godebug = none := by kernel_rfl
theorem Tryd.laidOut : laidOutB Tryd.prog = true := by kernel_rfl
theorem Tryd.cellsW : Tryd.prog.cellsOf 44 = 2 := by kernel_rfl
theorem Tryd.cellsU : Tryd.prog.cellsOf 77 = 1 := by kernel_rfl
theorem Tryd.bytesU : Tryd.prog.bytesOf 77 = 4 := by kernel_rfl

theorem bounds_of_u32 {x : Int} (h : (Lit.int .u32 x).wf = true) : 0 ≤ x ∧ x < 4294967296 := by
  simp [Lit.wf, IntKind.min, IntKind.max, IntKind.signed, IntKind.bits] at h
  omega

theorem limbs_of_ints {W : World} {a : Addr} {len cap : Nat} {zs : List Int} (hl : len ≤ cap) (hz : zs.length = cap) (hc : ∀ i, i < zs.length → W.cell? (a.add i) = some (.int .u32 (zs.getD i 0))) (hw : ∀ n ∈ zs, (Lit.int .u32 n).wf = true) :
    LimbsAt W (some a) cap ((zs.take len).map Int.toNat) ∧ ((zs.take len).map Int.toNat).length = len := by
  have hlen : ((zs.take len).map Int.toNat).length = len := by simp; omega
  refine ⟨⟨by omega, ?_, ?_⟩, hlen⟩
  · intro x hx
    obtain ⟨y, hy, rfl⟩ := List.mem_map.1 hx
    have := bounds_of_u32 (hw y (List.mem_of_mem_take hy))
    omega
  · rcases Nat.eq_zero_or_pos len with rfl | hp
    · left; simp
    · right
      obtain ⟨b, off, spot⟩ := a
      have h0 := hc 0 (by omega)
      have hspot : spot = none := by simpa [Addr.add] using World.cell?_spot h0
      subst hspot
      have hb : b < W.heap.size := by
        have := World.block_lt_of_cell? W _ h0
        simpa [Addr.add] using this
      refine ⟨b, off, rfl, hb, fun i hi => ?_⟩
      have h1 := hc i (by omega)
      have h2 : (0 : Int) ≤ zs[i]'(by omega) := (bounds_of_u32 (hw _ (List.getElem_mem _))).1
      have h3 : (⟨b, off, none⟩ : Addr).add i = ⟨b, off + i, none⟩ := by simp [Addr.add]
      rw [h3] at h1
      rw [h1]
      have e : ((zs.take len).map Int.toNat)[i]?.getD 0 = (zs[i]'(by omega)).toNat := by
        rw [List.getElem?_map, List.getElem?_take, if_pos (by omega), List.getElem?_eq_getElem (by omega)]; rfl
      rw [e, List.getD_eq_getElem?_getD, List.getElem?_eq_getElem (by omega)]
      simp only [Option.getD_some, Option.some.injEq, Value.int.injEq, true_and]
      omega

set_option maxRecDepth 20000 in
/-- A number that came in: its sign, its limbs, where they lie; by the row's own reach they are not too many. -/
theorem open_whole {H : Type} {enc : TypeId × Value → H} {W : World} {base : Nat} {v : Value} {d : DataW H} {p : List MemPlace} (hval : Value.okWide Tryd.prog W .any base 44 v) (h : DataW.Trod enc Tryd.prog W 0 (fun _ => true) true 44 v d p)
    (hs : ∀ n ∈ d.weights Tryd.prog 44, n ≤ reachBytes) :
    ∃ neg ao cap L, v = .agg #[.bool neg, .slice ao L.length cap] ∧ LimbsAt W ao cap L ∧ L.length ≤ 35184372087808 := by
  obtain ⟨c0, c1, y0, y1, m, rfl, rfl, rfl, hy0, hy1⟩ := open_agg2 Tryd.underlying44 (by kernel_rfl) Tryd.cellsW hval h
  obtain ⟨neg, e0, rfl⟩ := DataW.trod_bool Tryd.underlying4 hy0
  simp at e0
  subst e0
  rcases open_ints Tryd.underlying42 Tryd.underlying77 Tryd.cellsU hy1 with ⟨hcs, _⟩ | ⟨a, len, cap, zs, hcs, _, hl, hm, hz, rfl, hcell, hwz⟩
  · simp at hcs
    subst hcs
    exact ⟨neg, none, 0, [], rfl, LimbsAt.nil _ _ _, by simp⟩
  · simp at hcs
    subst hcs
    obtain ⟨h1, h2⟩ := limbs_of_ints hl (by simpa using hz) hcell hwz
    refine ⟨neg, some a, cap, _, by rw [h2], h1, ?_⟩
    have hk := hs ((zs.length) * 4) (by
      simp only [DataW.weights, Tryd.underlying44, DataW.weightsEach, List.map, Tryd.underlying42, List.nil_append, List.append_nil, List.mem_cons, Tryd.bytesU, lits, List.length_map, List.length_take, List.length_drop]
      left
      omega)
    simp only [reachBytes] at hk
    rw [h2]
    have : zs.length = cap := by simpa using hz
    omega

end Go.Proofs.YtgegjhkiiejhlaaDoor

/- The bounds of an int or int64 that came in. -/
namespace Go.Proofs.YtgegjhkiiejhlaaDoor

theorem bounds_of_i64 {x : Int} (h : (Lit.int .i64 x).wf = true) : -9223372036854775808 ≤ x ∧ x ≤ 9223372036854775807 := by
  simp [Lit.wf, IntKind.min, IntKind.max, IntKind.signed, IntKind.bits] at h
  omega

end Go.Proofs.YtgegjhkiiejhlaaDoor

/- A dyadic number that came in, opened; the library's table, as the row lays it. -/
namespace Go.Proofs.YtgegjhkiiejhlaaDoor
open Go.ChangeShapes Go.WideShapes Go.ChangeAt Go.RowKit Go.Joins

theorem Tryd.cellsD : Tryd.prog.cellsOf 46 = 3 := by kernel_rfl
theorem Tryd.cellsI : Tryd.prog.cellsOf 3 = 1 := by kernel_rfl
theorem Tryd.cellsB : Tryd.prog.cellsOf 4 = 1 := by kernel_rfl
theorem Tryd.cellsS : Tryd.prog.cellsOf 42 = 1 := by kernel_rfl

theorem Tryd.tabName : Tryd.prog.globalNamed "math/bits.deBruijn32tab" = some 1 := by kernel_rfl
theorem Tryd.tabType : (Tryd.prog.globals[1]?).map (·.type) = some 107 := by kernel_rfl
theorem Tryd.tabCells : Tryd.prog.cellsOf 107 = 32 := by kernel_rfl
theorem Tryd.byteCells : Tryd.prog.cellsOf 5 = 1 := by kernel_rfl

theorem tab_getD : ∀ j, j < Lib.deBruijn32tab.length → (List.map Int.ofNat Lib.deBruijn32tab).getD j 0 = ((Lib.deBruijn32tab.getD j 0 : Nat) : Int) := by decide

/-- What the rows' list gives: the table's cells. -/
theorem tab_of_laid {W : World} (h : laidMetH Tryd.prog [("math/bits.deBruijn32tab", Rows.laid_math_bits_deBruijn32tab)] W) : Tab W := by
  have ht := Lib.tabIs_of_head (zs := Lib.deBruijn32tab.map Int.ofNat) (rest := []) Tryd.tabName Tryd.tabType Tryd.underlying107 Tryd.underlying5 Tryd.byteCells Tryd.tabCells h
  intro j hj
  have := ht.cell Tryd.tabName j (by simpa using hj)
  rw [this]
  congr 2
  exact tab_getD j hj

set_option maxRecDepth 20000 in
/-- A dyadic number that came in. -/
theorem open_dyadic {H : Type} {enc : TypeId × Value → H} {W : World} {base : Nat} {v : Value} {d : DataW H} {p : List MemPlace} (hval : Value.okWide Tryd.prog W .any base 46 v) (h : DataW.Trod enc Tryd.prog W 0 (fun _ => true) true 46 v d p)
    (hs : ∀ n ∈ d.weights Tryd.prog 46, n ≤ reachBytes) :
    ∃ (neg : Bool) (ao : Option Addr) (cap : Nat) (L : List Nat) (e : Int), v = .agg #[.bool neg, .slice ao L.length cap, .int .i64 e] ∧ LimbsAt W ao cap L ∧ L.length ≤ 35184372087808 ∧ (-9223372036854775808 ≤ e ∧ e ≤ 9223372036854775807) := by
  obtain ⟨cs, rfl, hsz⟩ := okWide_struct Tryd.underlying46 hval
  obtain ⟨c0, c1, c2, rfl⟩ := array3 (hsz.trans Tryd.cellsD)
  obtain ⟨fuel, hf⟩ := h
  obtain ⟨y0, y1, n, hx, _, h0, h1⟩ := trod_struct2 Tryd.underlying46 hf
  simp only [Prod.mk.injEq] at hx
  obtain ⟨rfl, rfl⟩ := hx
  have h0' : DataW.trod enc Tryd.prog W 0 (fun _ => true) true n 44 [c0, c1] = some y0 := by simpa [Value.cells, Tryd.cellsW] using h0
  have h1' : DataW.trod enc Tryd.prog W 0 (fun _ => true) true n 3 [c2] = some y1 := by simpa [Value.cells, Tryd.cellsI] using h1
  clear h0 h1
  obtain ⟨e, e1, e2, we⟩ := DataW.trod_int Tryd.underlying3 h1'
  simp at e1
  subst e1
  obtain ⟨z0, z1, m, hz, _, g0, g1⟩ := trod_struct2 Tryd.underlying44 h0'
  subst hz
  have g0' : DataW.trod enc Tryd.prog W 0 (fun _ => true) true m 4 [c0] = some z0 := by simpa [Tryd.cellsB] using g0
  have g1' : DataW.trod enc Tryd.prog W 0 (fun _ => true) true m 42 [c1] = some z1 := by simpa [Tryd.cellsS] using g1
  clear g0 g1
  obtain ⟨neg, e0, _⟩ := DataW.trod_bool Tryd.underlying4 g0'
  simp at e0
  subst e0
  have be := bounds_of_i64 we
  rcases open_ints Tryd.underlying42 Tryd.underlying77 Tryd.cellsU g1' with ⟨hcs, _⟩ | ⟨a, len, cap, zs, hcs, _, hl, hm, hzz, rfl, hcell, hwz⟩
  · simp at hcs
    subst hcs
    exact ⟨neg, none, 0, [], e, rfl, LimbsAt.nil _ _ _, by simp, be⟩
  · simp at hcs
    subst hcs
    obtain ⟨l1, l2⟩ := limbs_of_ints hl (by simpa using hzz) hcell hwz
    refine ⟨neg, some a, cap, _, e, by rw [l2], l1, ?_, be⟩
    have hk := hs ((zs.length) * 4) (by
      simp only [DataW.weights, Tryd.underlying46, Tryd.underlying44, DataW.weightsEach, List.map, Tryd.underlying42, List.append_nil, List.mem_cons, List.mem_append, Tryd.bytesU, lits, List.length_map, List.length_take, List.length_drop]
      refine .inl (.inr (.inl ?_))
      have : zs.length = cap := by simpa using hzz
      omega)
    simp only [reachBytes] at hk
    rw [l2]
    have : zs.length = cap := by simpa using hzz
    omega

end Go.Proofs.YtgegjhkiiejhlaaDoor

/- Bits that came in. -/
namespace Go.Proofs.YtgegjhkiiejhlaaDoor
open Go.ChangeShapes Go.WideShapes Go.ChangeAt Go.RowKit

theorem nat_of_u64 {n : Int} (h : (Lit.int .u64 n).wf = true) : ∃ m : Nat, n = (m : Int) ∧ m < 18446744073709551616 := by
  simp [Lit.wf, IntKind.min, IntKind.max, IntKind.signed, IntKind.bits] at h
  exact ⟨n.toNat, by omega, by omega⟩

end Go.Proofs.YtgegjhkiiejhlaaDoor

