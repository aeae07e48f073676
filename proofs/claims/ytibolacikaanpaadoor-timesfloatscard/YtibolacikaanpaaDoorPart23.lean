/- Part 23 of the texts. -/
import Derived.Test.YtibolacikaanpaaDoorPart22
import Derived.Test.YtibolacikaanpaaDoorPart21
import Derived.Laws.Cover2
import Derived.Laws.Externs
import Derived.Test.YtibolacikaanpaaDoorPart04
import Derived.Laws.FloatArith
import Derived.Test.YtibolacikaanpaaDoorChecked
import Derived.Test.YtibolacikaanpaaDoorPart02
import Derived.ProofKit
import Derived.SizedLaws
import Derived.Lib.SmallJoins
/- Contracts of package sum: Add, Sub; awake. -/
namespace Go.Proofs.YtibolacikaanpaaDoor
open Go.RowKit

theorem awake5_facts : aV 4607182418800017408 4607182418800017408 = 4611686018427387904 ∧ aF 4607182418800017408 4607182418800017408 = 0 ∧ aV 9218868437227405312 (fN 9218868437227405312) = 9221120237041090560 ∧ aF 9218868437227405312 (fN 9218868437227405312) = 16 := by decide +kernel

end Go.Proofs.YtibolacikaanpaaDoor

/- The law SumRises, walked. -/
namespace Go.Proofs.YtibolacikaanpaaDoor
open Go.RowKit

theorem frombits5 (R : Nat) (W : World) : (callFunc 40 #[.int .u64 R]).run Tryd.prog W = .ok (.value (.float .f64 R)) W := by
  rw [run_callFunc_extern (e := Extern.MathFloatBits.float64frombits) Tryd.func40 (by kernel_rfl) (by kernel_rfl) (by kernel_rfl) (by kernel_rfl)]
  show ((pure (.float .f64 ((R : Int).toNat)) : Sem Value).run Tryd.prog W).andThen (fun v w' => .ok (Next.value v) w') = _
  simp

end Go.Proofs.YtibolacikaanpaaDoor

/- The law SumFloats, walked. -/
namespace Go.Proofs.YtibolacikaanpaaDoor
open Go.RowKit

/-- What a float operation gives, and the world behind it: where it has no answer, some number that is none is drawn. -/
def fres (o : Option Nat) (x y : Nat) (w : World) : Nat :=
  match o with
  | some r => r
  | none => (Question.nanBits .f64 x y).cut (w.tape w.drawn (.nanBits .f64 x y))
def fwld (o : Option Nat) (w : World) : World :=
  match o with
  | some _ => w
  | none => { w with drawn := w.drawn + 1 }

theorem fadd_run (t : TypeId) (x y : Nat) (w : World) : (binOp .add t (.float .f64 x) (.float .f64 y)).run Tryd.prog w = .ok (.float .f64 (fres (Ieee.double.add x y) x y w)) (fwld (Ieee.double.add x y) w) := by
  have hf : FloatKind.f64.format = Ieee.double := rfl
  cases h : Ieee.double.add x y with
  | some r => exact run_float_arith w .add t .f64 x y r (by unfold floatBits; rw [hf]; exact h)
  | none =>
    simp only [binOp, Op.floatArith, hf, h]
    rfl
theorem fsub_run (t : TypeId) (x y : Nat) (w : World) : (binOp .sub t (.float .f64 x) (.float .f64 y)).run Tryd.prog w = .ok (.float .f64 (fres (Ieee.double.sub x y) x y w)) (fwld (Ieee.double.sub x y) w) := by
  have hf : FloatKind.f64.format = Ieee.double := rfl
  cases h : Ieee.double.sub x y with
  | some r => exact run_float_arith w .sub t .f64 x y r (by unfold floatBits; rw [hf]; exact h)
  | none =>
    simp only [binOp, Op.floatArith, hf, h]
    rfl

theorem below_fwld (o : Option Nat) (w : World) : Below w.heap.size w (fwld o w) := by
  cases o
  · exact (Below.refl _ _).drew
  · exact Below.refl _ _

theorem fres_none (x y : Nat) (w : World) : fres none x y w < 18446744073709551616 ∧ fK (fres none x y w) = 4 := by
  have h : fres none x y w = (w.tape w.drawn (.nanBits .f64 x y) % 2) * 9223372036854775808 + 9218868437227405312 + 1 + (w.tape w.drawn (.nanBits .f64 x y) / 2) % 4503599627370495 := rfl
  rw [h]
  clear h
  generalize w.tape w.drawn (.nanBits .f64 x y) = t
  have h1 := Nat.mod_lt t (show 0 < 2 by decide)
  have h2 := Nat.mod_lt (t / 2) (show 0 < 4503599627370495 by decide)
  generalize t / 2 % 4503599627370495 = u at *
  generalize t % 2 = v at *
  refine ⟨by omega, (fK_rungs _).1.2 ?_⟩
  unfold fR
  obtain rfl | rfl : v = 0 ∨ v = 1 := by omega
  · omega
  · omega

theorem tobits5 (R : Nat) (W : World) : (callFunc 17 #[.float .f64 R]).run Tryd.prog W = .ok (.value (.int .u64 R)) W := by
  rw [run_callFunc_extern (e := Extern.MathFloatBits.float64bits) Tryd.func17 (by kernel_rfl) (by kernel_rfl) (by kernel_rfl) (by kernel_rfl)]
  show ((pure (.int .u64 (R : Int)) : Sem Value).run Tryd.prog W).andThen (fun v w' => .ok (Next.value v) w') = _
  simp

set_option maxRecDepth 20000 in
set_option maxHeartbeats 2000000 in
theorem canon_any (b : Nat) (w : World) (h : b < 18446744073709551616) :
    Calls Tryd.prog 16 #[.int .u64 b] w fun r w' => r = .returned (.int .u64 ((if fK b = 4 then 9221120237041090560 else b : Nat) : Int)) ∧ w = w' := by
  have K := hide (fun w' => rkind_any b w' h)
  have hw : IntKind.u64.wrap (b : Int) = (b : Int) := by simp only [IntKind.wrap_u64]; omega
  by_cases h4 : fK b = 4
  · rw [if_pos h4]
    rw [h4] at K
    clear h4 h
    go_enter Tryd.func16, Tryd.ntmps16
    go_wp2_with fail
    refine (unhide K _).mono ?_
    rintro e w1 ⟨rfl, rfl⟩
    go_wp2
    go_ret
    exact ⟨rfl, rfl⟩
  · rw [if_neg h4]
    have hk : (fK b == 4) = false := by simp [h4]
    generalize fK b = k at *
    clear h4 h
    go_enter Tryd.func16, Tryd.ntmps16
    go_wp2_with fail
    refine (unhide K _).mono ?_
    rintro e w1 ⟨rfl, rfl⟩
    go_wp2
    go_ret
    exact ⟨rfl, rfl⟩

/-- What Go's own sum, by its bits, comes to. -/
theorem canon_add (a b : Nat) (w w' : World) (ha : a < 18446744073709551616) (hb : b < 18446744073709551616) :
    Calls Tryd.prog 16 #[.int .u64 (fres (Ieee.double.add a b) a b w : Nat)] w' fun r w'' => r = .returned (.int .u64 (aV a b : Nat)) ∧ w' = w'' := by
  cases h : aN a b with
  | true =>
    obtain ⟨h1, h2⟩ := fadd_none a b ha hb h
    rw [h1, h2]
    obtain ⟨h3, h4⟩ := fres_none a b w
    have := canon_any _ w' h3
    rw [if_pos h4] at this
    exact this
  | false =>
    rw [fadd_some a b ha hb h]
    have := canon_any (aV a b) w' (aV_lt a b ha hb)
    by_cases h4 : fK (aV a b) = 4
    · exfalso
      have h' := of_decide_eq_false h
      have n4 : ¬ (fK a = 4 ∨ fK b = 4) := fun e => h' (Or.inl e)
      unfold aV at h4
      rw [if_neg n4] at h4
      by_cases a3 : fK a = 3
      · rw [if_pos a3, if_neg (fun h => h' (Or.inr ⟨a3, h.1, h.2⟩))] at h4
        omega
      · rw [if_neg a3] at h4
        by_cases b3 : fK b = 3
        · rw [if_pos b3] at h4; omega
        · rw [if_neg b3] at h4
          have hr := (aV_fin a b (fin_of a a3 (by omega)) (fin_of b b3 (by omega))).1
          have hle := rnd_le (aZ a b).natAbs (-1074)
          have e := (add_f a b a3 (by omega) b3 (by omega)).1
          rw [← e] at h4
          have := (fK_rungs _).1.1 h4
          omega
    · rw [if_neg h4] at this
      exact this

end Go.Proofs.YtibolacikaanpaaDoor

/- The law TimesFloats, walked. -/
namespace Go.Proofs.YtibolacikaanpaaDoor
open Go.RowKit

theorem fmul_run (t : TypeId) (x y : Nat) (w : World) : (binOp .mul t (.float .f64 x) (.float .f64 y)).run Tryd.prog w = .ok (.float .f64 (fres (Ieee.double.mul x y) x y w)) (fwld (Ieee.double.mul x y) w) := by
  have hf : FloatKind.f64.format = Ieee.double := rfl
  cases h : Ieee.double.mul x y with
  | some r => exact run_float_arith w .mul t .f64 x y r (by unfold floatBits; rw [hf]; exact h)
  | none =>
    simp only [binOp, Op.floatArith, hf, h]
    rfl
theorem fdiv_run (t : TypeId) (x y : Nat) (w : World) : (binOp .quo t (.float .f64 x) (.float .f64 y)).run Tryd.prog w = .ok (.float .f64 (fres (Ieee.double.div x y) x y w)) (fwld (Ieee.double.div x y) w) := by
  have hf : FloatKind.f64.format = Ieee.double := rfl
  cases h : Ieee.double.div x y with
  | some r => exact run_float_arith w .quo t .f64 x y r (by unfold floatBits; rw [hf]; exact h)
  | none =>
    simp only [binOp, Op.floatArith, hf, h]
    rfl

set_option maxRecDepth 20000 in
set_option maxHeartbeats 2000000 in
theorem float6_any (b : Nat) (w : World) (_h : b < 18446744073709551616) :
    Calls Tryd.prog 15 #[.int .u64 b] w fun r w' => r = .returned (.float .f64 b) ∧ w = w' := by
  have hF := fun W => frombits5 b W
  have hw : IntKind.u64.wrap (b : Int) = (b : Int) := by simp only [IntKind.wrap_u64]; omega
  go_enter Tryd.func15, Tryd.ntmps15
  go_wp2
  go_ret
  exact ⟨rfl, rfl⟩

theorem wrd_kind (n : Bool) (r : Nat) (h : r ≤ 9218868437227405312) : fK (wrd n r) ≠ 4 := fun h4 => by
  have := (fK_rungs _).1.1 h4
  have e : fR (wrd n r) = r := by unfold fR; exact (wrd_parts n r (by omega)).2
  omega
theorem mV_kind (a b : Nat) (h : mN a b = false) : fK (mV a b) ≠ 4 := by
  have h' := of_decide_eq_false h
  have n4 : ¬ (fK a = 4 ∨ fK b = 4) := fun e => h' (Or.inl e)
  unfold mV
  rw [if_neg n4]
  split
  · rename_i h3
    rw [if_neg (fun h0 => h' (Or.inr ⟨h3, h0⟩))]
    exact wrd_kind _ _ (by decide)
  · exact wrd_kind _ _ (rnd_le _ _)
theorem dV_kind (a b : Nat) (h : dN a b = false) : fK (dV a b) ≠ 4 := by
  have h' := of_decide_eq_false h
  have n4 : ¬ (fK a = 4 ∨ fK b = 4) := fun e => h' (Or.inl e)
  have nn : ¬ (fK a = fK b ∧ (fK a = 3 ∨ fK a = 0)) := fun e => h' (Or.inr e)
  unfold dV
  rw [if_neg n4, if_neg nn]
  repeat' split
  · exact wrd_kind _ _ (by decide)
  · exact wrd_kind _ _ (by decide)
  · exact wrd_kind _ _ (by decide)
  · exact wrd_kind _ _ (rnd_le _ _)

/-- What Go's own, by its bits, comes to. -/
theorem canon_of (o : Option Nat) (v x y : Nat) (w w' : World) (hv : v < 18446744073709551616) (h1 : o = none → v = 9221120237041090560) (h2 : ∀ r, o = some r → r = v ∧ fK v ≠ 4) :
    Calls Tryd.prog 16 #[.int .u64 (fres o x y w : Nat)] w' fun r w'' => r = .returned (.int .u64 (v : Nat)) ∧ w' = w'' := by
  cases o with
  | none =>
    rw [h1 rfl]
    obtain ⟨h3, h4⟩ := fres_none x y w
    have := canon_any _ w' h3
    rw [if_pos h4] at this
    exact this
  | some r =>
    obtain ⟨rfl, h4⟩ := h2 r rfl
    have := canon_any r w' hv
    rw [if_neg h4] at this
    exact this
theorem canon_mul (a b : Nat) (w w' : World) (ha : a < 18446744073709551616) (hb : b < 18446744073709551616) :
    Calls Tryd.prog 16 #[.int .u64 (fres (Ieee.double.mul a b) a b w : Nat)] w' fun r w'' => r = .returned (.int .u64 (mV a b : Nat)) ∧ w' = w'' := by
  refine canon_of _ (mV a b) a b w w' (mV_lt a b) (fun h => ?_) (fun r h => ?_)
  · cases e : mN a b with
    | true => exact (fmul_none a b ha hb e).2
    | false => rw [fmul_some a b ha hb e] at h; cases h
  · cases e : mN a b with
    | true => rw [(fmul_none a b ha hb e).1] at h; cases h
    | false =>
      rw [fmul_some a b ha hb e] at h
      exact ⟨(Option.some.inj h).symm, mV_kind a b e⟩
theorem canon_div (a b : Nat) (w w' : World) (ha : a < 18446744073709551616) (hb : b < 18446744073709551616) :
    Calls Tryd.prog 16 #[.int .u64 (fres (Ieee.double.div a b) a b w : Nat)] w' fun r w'' => r = .returned (.int .u64 (dV a b : Nat)) ∧ w' = w'' := by
  refine canon_of _ (dV a b) a b w w' (dV_lt a b) (fun h => ?_) (fun r h => ?_)
  · cases e : dN a b with
    | true => exact (fdiv_none a b ha hb e).2
    | false => rw [fdiv_some a b ha hb e] at h; cases h
  · cases e : dN a b with
    | true => rw [(fdiv_none a b ha hb e).1] at h; cases h
    | false =>
      rw [fdiv_some a b ha hb e] at h
      exact ⟨(Option.some.inj h).symm, dV_kind a b e⟩

set_option maxRecDepth 20000 in
set_option maxHeartbeats 8000000 in
theorem timesFloats_ways (a b s t : Nat) (f g : Int) (o p : Option Nat) (w : World) (hT : Tab w)
    (hA : ∀ i w', (binOp .mul i (.float .f64 a) (.float .f64 b)).run Tryd.prog w' = .ok (.float .f64 (fres o a b w')) (fwld o w'))
    (hS : ∀ i w', (binOp .quo i (.float .f64 a) (.float .f64 b)).run Tryd.prog w' = .ok (.float .f64 (fres p a b w')) (fwld p w'))
    (C1 : Calls Tryd.prog 9 #[.int .u64 a, .int .u64 b] w fun r w' => r = .returned (.tuple #[.int .u64 s, .int .u8 f]) ∧ Below w.heap.size w w')
    (C2 : ∀ w', Tab w' → Calls Tryd.prog 13 #[.int .u64 a, .int .u64 b] w' fun r w'' => r = .returned (.tuple #[.int .u64 t, .int .u8 g]) ∧ Below w'.heap.size w' w'')
    (F1 : ∀ w', Calls Tryd.prog 15 #[.int .u64 a] w' fun r w'' => r = .returned (.float .f64 a) ∧ w' = w'')
    (F2 : ∀ w', Calls Tryd.prog 15 #[.int .u64 b] w' fun r w'' => r = .returned (.float .f64 b) ∧ w' = w'')
    (N1 : ∀ u w', Calls Tryd.prog 16 #[.int .u64 (fres o a b u : Nat)] w' fun r w'' => r = .returned (.int .u64 s) ∧ w' = w'')
    (N2 : ∀ u w', Calls Tryd.prog 16 #[.int .u64 (fres p a b u : Nat)] w' fun r w'' => r = .returned (.int .u64 t) ∧ w' = w'') :
    Calls Tryd.prog 5 #[.int .u64 a, .int .u64 b] w fun r w' => r = .returned (.bool true) ∧ Below w.heap.size w w' := by
  have K1 := hide C1; have K2 := hide C2; have L1 := hide F1; have L2 := hide F2; have M1 := hide N1; have M2 := hide N2
  have K3 := hide (fun w' t => awake6_any w' t)
  have hB := fun R W => tobits5 R W
  clear C1 C2 F1 F2 N1 N2
  go_enter Tryd.func5, Tryd.ntmps5
  go_wp2_with fail
  refine Calls.mono (unhide K1) ?_
  rintro e w1 ⟨rfl, hb1⟩
  have HT := hide (hT.all hb1)
  go_wp2_with fail
  refine (unhide K2 _ (unhide HT)).mono ?_
  rintro e w2 ⟨rfl, hb2⟩
  have b2 := hb1.trans (hb2.mono hb1.size)
  have b3 : Below w2.heap.size w2 (fwld p (fwld o w2)) := (below_fwld o w2).trans ((below_fwld p _).mono (below_fwld o w2).size)
  have B := hide (b2.trans (b3.mono b2.size))
  have HT2 := hide (((unhide HT).all hb2).all b3)
  clear hb1 hb2 K1 K2 HT b2 b3
  go_wp2_with fail
  refine (unhide L1 _).mono ?_
  rintro e w2 ⟨rfl, rfl⟩
  go_wp2_with fail
  refine (unhide L2 _).mono ?_
  rintro e w2 ⟨rfl, rfl⟩
  go_wp2_with fail
  refine (unhide L1 _).mono ?_
  rintro e w2 ⟨rfl, rfl⟩
  go_wp2_with fail
  refine (unhide L2 _).mono ?_
  rintro e w2 ⟨rfl, rfl⟩
  go_wp2_with fail
  refine (unhide M1 _ _).mono ?_
  rintro e w2 ⟨rfl, rfl⟩
  go_wp2_with fail
  refine (unhide M2 _ _).mono ?_
  rintro e w2 ⟨rfl, rfl⟩
  clear L1 L2 M1 M2
  go_wp2_with fail
  refine (unhide K3 _ (unhide HT2)).mono ?_
  rintro e w4 ⟨rfl, hb3⟩
  have B3 := hide ((unhide B).trans (hb3.mono (unhide B).size))
  clear hb3 K3 HT2 B
  go_wp2
  go_ret
  exact ⟨rfl, unhide B3⟩

theorem timesFloats_walk (a b : Nat) (w : World) (ha : a < 18446744073709551616) (hb : b < 18446744073709551616) (hT : Tab w) :
    Calls Tryd.prog 5 #[.int .u64 a, .int .u64 b] w fun r w' => r = .returned (.bool true) ∧ Below w.heap.size w w' :=
  timesFloats_ways a b (mV a b) (dV a b) _ _ (Ieee.double.mul a b) (Ieee.double.div a b) w hT (fun i w' => fmul_run i a b w') (fun i w' => fdiv_run i a b w') (tmul_any a b w ha hb hT) (fun w' t => tdiv_any a b w' ha hb t)
    (fun w' => float6_any a w' ha) (fun w' => float6_any b w' hb) (fun u w' => canon_mul a b u w' ha hb) (fun u w' => canon_div a b u w' ha hb)

end Go.Proofs.YtibolacikaanpaaDoor

/- A struct of a sign and limbs that came in, opened. -/
namespace Go.Proofs.YtibolacikaanpaaDoor
open Go.ChangeShapes Go.WideShapes Go.ChangeAt Go.RowKit Go.Joins

theorem Tryd.own : ownKnob Tryd.prog.godebug = none := by kernel_rfl
theorem Tryd.laidOut : laidOutB Tryd.prog = true := by kernel_rfl
theorem Tryd.cellsW : Tryd.prog.cellsOf 44 = 2 := by kernel_rfl
theorem Tryd.cellsU : Tryd.prog.cellsOf 82 = 1 := by kernel_rfl
theorem Tryd.bytesU : Tryd.prog.bytesOf 82 = 4 := by kernel_rfl

theorem bounds_of_u32 {x : Int} (h : (Lit.int .u32 x).wf = true) : 0 ≤ x ∧ x < 4294967296 := by
  simp [Lit.wf, IntKind.min, IntKind.max, IntKind.signed, IntKind.bits] at h
  omega

theorem limbs_of_ints {W : World} {a : Addr} {len cap : Nat} {zs : List Int} (hl : len ≤ cap) (hz : zs.length = cap) (hc : ∀ i, i < zs.length → W.cell? (a.add i) = some (.int .u32 (zs.getD i 0))) (hw : ∀ n ∈ zs, (Lit.int .u32 n).wf = true) :
    LimbsAt W (some a) cap ((zs.take len).map Int.toNat) ∧ ((zs.take len).map Int.toNat).length = len := by
  have hlen : ((zs.take len).map Int.toNat).length = len := by simp; omega
  refine ⟨⟨by omega, ?_, ?_⟩, hlen⟩
  · intro x hx
    obtain ⟨y, hy, rfl⟩ := List.mem_map.1 hx
    have := bounds_of_u32 (hw y (List.mem_of_mem_take hy))
    omega
  · rcases Nat.eq_zero_or_pos len with rfl | hp
    · left; simp
    · right
      obtain ⟨b, off, spot⟩ := a
      have h0 := hc 0 (by omega)
      have hspot : spot = none := by simpa [Addr.add] using World.cell?_spot h0
      subst hspot
      have hb : b < W.heap.size := by
        have := World.block_lt_of_cell? W _ h0
        simpa [Addr.add] using this
      refine ⟨b, off, rfl, hb, fun i hi => ?_⟩
      have h1 := hc i (by omega)
      have h2 : (0 : Int) ≤ zs[i]'(by omega) := (bounds_of_u32 (hw _ (List.getElem_mem _))).1
      have h3 : (⟨b, off, none⟩ : Addr).add i = ⟨b, off + i, none⟩ := by simp [Addr.add]
      rw [h3] at h1
      rw [h1]
      have e : ((zs.take len).map Int.toNat)[i]?.getD 0 = (zs[i]'(by omega)).toNat := by
        rw [List.getElem?_map, List.getElem?_take, if_pos (by omega), List.getElem?_eq_getElem (by omega)]; rfl
      rw [e, List.getD_eq_getElem?_getD, List.getElem?_eq_getElem (by omega)]
      simp only [Option.getD_some, Option.some.injEq, Value.int.injEq, true_and]
      omega

set_option maxRecDepth 20000 in
/-- A number that came in: its sign, its limbs, where they lie; by the row's own reach they are not too many. -/
theorem open_whole {H : Type} {enc : TypeId × Value → H} {W : World} {base : Nat} {v : Value} {d : DataW H} {p : List MemPlace} (hval : Value.okWide Tryd.prog W .any base 44 v) (h : DataW.Trod enc Tryd.prog W 0 (fun _ => true) true 44 v d p)
    (hs : ∀ n ∈ d.weights Tryd.prog 44, n ≤ reachBytes) :
    ∃ neg ao cap L, v = .agg #[.bool neg, .slice ao L.length cap] ∧ LimbsAt W ao cap L ∧ L.length ≤ 35184372087808 := by
  obtain ⟨c0, c1, y0, y1, m, rfl, rfl, rfl, hy0, hy1⟩ := open_agg2 Tryd.underlying44 (by kernel_rfl) Tryd.cellsW hval h
  obtain ⟨neg, e0, rfl⟩ := DataW.trod_bool Tryd.underlying4 hy0
  simp at e0
  subst e0
  rcases open_ints Tryd.underlying42 Tryd.underlying82 Tryd.cellsU hy1 with ⟨hcs, _⟩ | ⟨a, len, cap, zs, hcs, _, hl, hm, hz, rfl, hcell, hwz⟩
  · simp at hcs
    subst hcs
    exact ⟨neg, none, 0, [], rfl, LimbsAt.nil _ _ _, by simp⟩
  · simp at hcs
    subst hcs
    obtain ⟨h1, h2⟩ := limbs_of_ints hl (by simpa using hz) hcell hwz
    refine ⟨neg, some a, cap, _, by rw [h2], h1, ?_⟩
    have hk := hs ((zs.length) * 4) (by
      simp only [DataW.weights, Tryd.underlying44, DataW.weightsEach, List.map, Tryd.underlying42, List.nil_append, List.append_nil, List.mem_cons, Tryd.bytesU, lits, List.length_map, List.length_take, List.length_drop]
      left
      omega)
    simp only [reachBytes] at hk
    rw [h2]
    have : zs.length = cap := by simpa using hz
    omega

end Go.Proofs.YtibolacikaanpaaDoor

