/- Part 19 of the texts. -/
import Derived.Test.YtheepcdlakjdcaaGreatDoorPart16
import Derived.Test.YtheepcdlakjdcaaGreatDoorPart17
import Derived.Test.YtheepcdlakjdcaaGreatDoorPart15
import Derived.Test.YtheepcdlakjdcaaGreatDoorPart14
import Derived.Test.YtheepcdlakjdcaaGreatDoorPart09
import Derived.Test.YtheepcdlakjdcaaGreatDoorPart07
import Derived.Test.YtheepcdlakjdcaaGreatDoorPart13
import Derived.Test.YtheepcdlakjdcaaGreatDoorPart12
import Derived.Deep.Cut
import Derived.BigQuiet
import Derived.Test.YtheepcdlakjdcaaGreatDoorPart18
import Derived.Deep.RegionHeld3
import Derived.Test.YtheepcdlakjdcaaGreatDoorPart08
import Derived.Laws.BitsAllLaws
import Derived.Test.YtheepcdlakjdcaaGreatDoorPart04
import Derived.Test.YtheepcdlakjdcaaGreatDoorPart10
import Derived.Laws.BitsLemmas
/- Go's own math.Ldexp of any number; the law CompareScales, walked. -/
namespace Go.Proofs.YtheepcdlakjdcaaGreatDoor
open Go.RowKit
theorem rv_one : rv 4607182418800017408 = 2 ^ 1074 := by
  have := gM_rv 4607182418800017408 (by decide)
  rw [this, show gM 4607182418800017408 = 2 ^ 52 by decide, show 4607182418800017408 / 4503599627370496 - 1 = 1022 by decide]
  exact pow_join 52 1022 1074 (by decide)
theorem wrd_fin {s : Bool} {v : Nat} (h : v < 9218868437227405312) : fFin (wrd s v) = true := (fK_rungs _).2.2.2 (by rw [fR_wrd s v (by omega)]; exact h)
theorem wrd_ne0 {s : Bool} {v : Nat} (h : v < 9218868437227405312) (h0 : v ≠ 0) : fK (wrd s v) ≠ 0 := fun e => h0 (by have := (fK_zero _).1 e; rwa [fR_wrd s v (by omega)] at this)
theorem mul_one8 (s : Bool) (v : Nat) (h : v < 9218868437227405312) (h0 : v ≠ 0) : mV 4607182418800017408 (wrd s v) = wrd s v := by
  have f2 : fFin 4607182418800017408 = true := by decide
  have k2 : fK 4607182418800017408 ≠ 0 := by decide
  have s2 : fS 4607182418800017408 = false := by decide
  have r2 : fR 4607182418800017408 = 4607182418800017408 := by decide
  obtain ⟨K, hK⟩ : ∃ K : Nat, K = 1074 := ⟨_, rfl⟩
  have r3 := rv_one
  rw [← hK] at r3
  have hr := rnd_rv (wrd s v) (wrd_lt s v (by omega)) (wrd_fin h)
  rw [fR_wrd s v (by omega)] at hr
  rw [(mV_fin _ _ f2 (wrd_fin h) k2 (wrd_ne0 h h0)).1, s2, r2, r3, fR_wrd s v (by omega), fS_wrd s v (by omega), Bool.false_xor, Nat.mul_comm, rnd_scale1 _ _ _ (-1074) (by omega), hr]

end Go.Proofs.YtheepcdlakjdcaaGreatDoor

/- A list of bits; the sum of all: contracts of sum's All and the reference's. -/
namespace Go.Proofs.YtheepcdlakjdcaaGreatDoor
open Go.RowKit

/-- The bits I lie at ao. -/
def BitsAt (w : World) (ao : Option Addr) (cap : Nat) (I : List Int) : Prop :=
  I.length ≤ cap ∧ (∀ x ∈ I, 0 ≤ x ∧ x ≤ 18446744073709551615) ∧ (I = [] ∨ ∃ b off, ao = some ⟨b, off, none⟩ ∧ b < w.heap.size ∧ ∀ i, i < I.length → w.cell? ⟨b, off + i, none⟩ = some (.int .u64 (I[i]?.getD 0)))

theorem BitsAt.below {w w' : World} {ao : Option Addr} {cap : Nat} {I : List Int} (h : BitsAt w ao cap I) (hb : Below w.heap.size w w') : BitsAt w' ao cap I := by
  refine ⟨h.1, h.2.1, ?_⟩
  rcases h.2.2 with h | ⟨b, off, h1, h2, h3⟩
  · exact .inl h
  · refine .inr ⟨b, off, h1, Nat.lt_of_lt_of_le h2 hb.size, fun i hi => ?_⟩
    rw [hb.cell (p := ⟨b, off + i, none⟩) h2]
    exact h3 i hi
def atB (I : List Int) (j : Nat) : Nat := (I[j]?.getD 0).toNat
theorem BitsAt.wf {w : World} {ao : Option Addr} {cap : Nat} {I : List Int} (h : BitsAt w ao cap I) (j : Nat) : I[j]?.getD 0 = (atB I j : Int) ∧ atB I j < 18446744073709551616 := by
  unfold atB
  by_cases hi : j < I.length
  · have := h.2.1 _ (List.getElem_mem hi)
    rw [List.getElem?_eq_getElem hi]
    simp only [Option.getD_some]
    omega
  · rw [List.getElem?_eq_none (by omega)]; simp
theorem BitsAt.ne {w : World} {ao : Option Addr} {cap : Nat} {I : List Int} (h : BitsAt w ao cap I) (h0 : 0 < I.length) : ∃ b off, ao = some ⟨b, off, none⟩ ∧ b < w.heap.size ∧ ∀ i, i < I.length → w.cell? ⟨b, off + i, none⟩ = some (.int .u64 (atB I i : Int)) := by
  rcases h.2.2 with e | ⟨b, off, e1, e2, e3⟩
  · rw [e] at h0; simp at h0
  · exact ⟨b, off, e1, e2, fun i hi => by rw [e3 i hi, (h.wf i).1]⟩

end Go.Proofs.YtheepcdlakjdcaaGreatDoor

/- Rounding errs by a part in 2^53: numbers as rational ones. Ahead of stage 9. -/
namespace Go.Proofs.YtheepcdlakjdcaaGreatDoor
open Go.RowKit

/-- A power of two. -/
def p2 (e : Int) : Rat := (2 : Rat) ^ e
end Go.Proofs.YtheepcdlakjdcaaGreatDoor

/- The greatest number; the norm: right but for a part in 2^44; at least the greatest one but for a part in 2^50. Ahead of stage 9. -/
namespace Go.Proofs.YtheepcdlakjdcaaGreatDoor
open Go.RowKit
/-- The greater one of two; the greatest one without signs. -/
def mx (a b : Nat) : Nat := if fK a = 4 ∨ fK b = 4 then 9221120237041090560 else if fZ a < fZ b then b else a
end Go.Proofs.YtheepcdlakjdcaaGreatDoor

/- Package vector: operations without flags; the reference's with Go's own float64. -/
namespace Go.Proofs.YtheepcdlakjdcaaGreatDoor
open Go.RowKit

set_option maxRecDepth 20000 in
set_option maxHeartbeats 2000000 in
theorem vadd_any (a b : Nat) (w : World) (ha : a < 18446744073709551616) (hb : b < 18446744073709551616) (hT : Tab w) :
    Calls Tryz.prog 49 #[.int .u64 a, .int .u64 b] w fun r w' => r = .returned (.int .u64 (aV a b : Nat)) ∧ Below w.heap.size w w' := by
  have K := hide (sadd_any a b w ha hb hT)
  clear ha hb hT
  generalize aV a b = o at *
  generalize aF a b = f at *
  go_enter Tryz.func49, Tryz.ntmps49
  go_wp2_with fail
  refine Calls.mono (unhide K) ?_
  rintro e w1 ⟨rfl, hb1⟩
  clear K
  go_wp2
  go_ret
  exact ⟨rfl, hb1⟩

set_option maxRecDepth 20000 in
set_option maxHeartbeats 2000000 in
theorem vmul_any (a b : Nat) (w : World) (ha : a < 18446744073709551616) (hb : b < 18446744073709551616) (hT : Tab w) :
    Calls Tryz.prog 50 #[.int .u64 a, .int .u64 b] w fun r w' => r = .returned (.int .u64 (mV a b : Nat)) ∧ Below w.heap.size w w' := by
  have K := hide (tmul_any a b w ha hb hT)
  clear ha hb hT
  generalize mV a b = o at *
  generalize mF a b = f at *
  go_enter Tryz.func50, Tryz.ntmps50
  go_wp2_with fail
  refine Calls.mono (unhide K) ?_
  rintro e w1 ⟨rfl, hb1⟩
  clear K
  go_wp2
  go_ret
  exact ⟨rfl, hb1⟩

set_option maxRecDepth 20000 in
set_option maxHeartbeats 2000000 in
theorem vfit_any (ao bo : Option Addr) (n m c d : Nat) (w : World) :
    Calls Tryz.prog 38 #[.slice ao n c, .slice bo m d] w fun r w' => r = .returned (.bool (decide (n ≤ 64 ∧ n = m))) ∧ w = w' := by
  by_cases h1 : n ≤ 64
  · have h1I : (n : Int) ≤ 64 := by omega
    by_cases h2 : n = m
    · rw [decide_eq_true (And.intro h1 h2)]
      subst h2
      go_enter Tryz.func38, Tryz.ntmps38
      go_wp2
      go_ret
      exact ⟨rfl, rfl⟩
    · rw [decide_eq_false (fun h => h2 h.2)]
      have h2I : decide ((n : Int) = (m : Int)) = false := decide_eq_false (by omega)
      go_enter Tryz.func38, Tryz.ntmps38
      go_wp2
      go_ret
      exact ⟨by simp; omega, rfl⟩
  · rw [decide_eq_false (fun h => h1 h.1)]
    have h1I : (64 : Int) < (n : Int) := by omega
    go_enter Tryz.func38, Tryz.ntmps38
    go_wp2
    go_ret
    exact ⟨by simp, rfl⟩

set_option maxRecDepth 20000 in
set_option maxHeartbeats 2000000 in
theorem f9_any (b : Nat) (w : World) (_h : b < 18446744073709551616) :
    Calls Tryz.prog 46 #[.int .u64 b] w fun r w' => r = .returned (.float .f64 b) ∧ w = w' := by
  have hF := fun W => frombits5 b W
  have hw : IntKind.u64.wrap (b : Int) = (b : Int) := by simp only [IntKind.wrap_u64]; omega
  go_enter Tryz.func46, Tryz.ntmps46
  go_wp2
  go_ret
  exact ⟨rfl, rfl⟩

/-- The reference's number of Go's own, by its bits. -/
theorem b9_of (R v : Nat) (w : World) (C : ∀ w', Calls Tryz.prog 53 #[.int .u64 (R : Nat)] w' fun r w'' => r = .returned (.int .u64 (v : Nat)) ∧ w' = w'') :
    Calls Tryz.prog 45 #[.float .f64 R] w fun r w' => r = .returned (.int .u64 (v : Nat)) ∧ w = w' := by
  have K := hide C
  have hB := fun R W => tobits5 R W
  clear C
  go_enter Tryz.func45, Tryz.ntmps45
  go_wp2_with fail
  refine (unhide K _).mono ?_
  rintro e w2 ⟨rfl, rfl⟩
  clear K
  go_wp2
  go_ret
  exact ⟨rfl, rfl⟩

set_option maxRecDepth 20000 in
set_option maxHeartbeats 4000000 in
theorem r9add_of (a b v : Nat) (o : Option Nat) (w : World)
    (hA : ∀ i w', (binOp .add i (.float .f64 a) (.float .f64 b)).run Tryz.prog w' = .ok (.float .f64 (fres o a b w')) (fwld o w'))
    (F1 : ∀ w', Calls Tryz.prog 46 #[.int .u64 a] w' fun r w'' => r = .returned (.float .f64 a) ∧ w' = w'')
    (F2 : ∀ w', Calls Tryz.prog 46 #[.int .u64 b] w' fun r w'' => r = .returned (.float .f64 b) ∧ w' = w'')
    (N1 : ∀ u w', Calls Tryz.prog 45 #[.float .f64 (fres o a b u)] w' fun r w'' => r = .returned (.int .u64 v) ∧ w' = w'') :
    Calls Tryz.prog 42 #[.int .u64 a, .int .u64 b] w fun r w' => r = .returned (.int .u64 (v : Nat)) ∧ Below w.heap.size w w' := by
  have L1 := hide F1; have L2 := hide F2; have M1 := hide N1
  have B := hide (below_fwld o w)
  clear F1 F2 N1
  go_enter Tryz.func42, Tryz.ntmps42
  go_wp2_with fail
  refine (unhide L1 _).mono ?_
  rintro e w2 ⟨rfl, rfl⟩
  go_wp2_with fail
  refine (unhide L2 _).mono ?_
  rintro e w2 ⟨rfl, rfl⟩
  go_wp2_with fail
  refine (unhide M1 _ _).mono ?_
  rintro e w2 ⟨rfl, rfl⟩
  clear L1 L2 M1
  go_wp2
  go_ret
  exact ⟨rfl, unhide B⟩

theorem r9add_any (a b : Nat) (w : World) (ha : a < 18446744073709551616) (hb : b < 18446744073709551616) :
    Calls Tryz.prog 42 #[.int .u64 a, .int .u64 b] w fun r w' => r = .returned (.int .u64 (aV a b : Nat)) ∧ Below w.heap.size w w' :=
  r9add_of a b (aV a b) (Ieee.double.add a b) w (fun i w' => fadd_run i a b w') (fun w' => f9_any a w' ha) (fun w' => f9_any b w' hb) (fun u w' => b9_of _ _ w' (fun w'' => canon_add a b u w'' ha hb))

set_option maxRecDepth 20000 in
set_option maxHeartbeats 4000000 in
theorem r9mul_of (a b v : Nat) (o : Option Nat) (w : World)
    (hA : ∀ i w', (binOp .mul i (.float .f64 a) (.float .f64 b)).run Tryz.prog w' = .ok (.float .f64 (fres o a b w')) (fwld o w'))
    (F1 : ∀ w', Calls Tryz.prog 46 #[.int .u64 a] w' fun r w'' => r = .returned (.float .f64 a) ∧ w' = w'')
    (F2 : ∀ w', Calls Tryz.prog 46 #[.int .u64 b] w' fun r w'' => r = .returned (.float .f64 b) ∧ w' = w'')
    (N1 : ∀ u w', Calls Tryz.prog 45 #[.float .f64 (fres o a b u)] w' fun r w'' => r = .returned (.int .u64 v) ∧ w' = w'') :
    Calls Tryz.prog 43 #[.int .u64 a, .int .u64 b] w fun r w' => r = .returned (.int .u64 (v : Nat)) ∧ Below w.heap.size w w' := by
  have L1 := hide F1; have L2 := hide F2; have M1 := hide N1
  have B := hide (below_fwld o w)
  clear F1 F2 N1
  go_enter Tryz.func43, Tryz.ntmps43
  go_wp2_with fail
  refine (unhide L1 _).mono ?_
  rintro e w2 ⟨rfl, rfl⟩
  go_wp2_with fail
  refine (unhide L2 _).mono ?_
  rintro e w2 ⟨rfl, rfl⟩
  go_wp2_with fail
  refine (unhide M1 _ _).mono ?_
  rintro e w2 ⟨rfl, rfl⟩
  clear L1 L2 M1
  go_wp2
  go_ret
  exact ⟨rfl, unhide B⟩

theorem r9mul_any (a b : Nat) (w : World) (ha : a < 18446744073709551616) (hb : b < 18446744073709551616) :
    Calls Tryz.prog 43 #[.int .u64 a, .int .u64 b] w fun r w' => r = .returned (.int .u64 (mV a b : Nat)) ∧ Below w.heap.size w w' :=
  r9mul_of a b (mV a b) (Ieee.double.mul a b) w (fun i w' => fmul_run i a b w') (fun w' => f9_any a w' ha) (fun w' => f9_any b w' hb) (fun u w' => b9_of _ _ w' (fun w'' => canon_mul a b u w'' ha hb))

end Go.Proofs.YtheepcdlakjdcaaGreatDoor

