/- Part 18 of the texts. -/
import Derived.Test.YtheepcdlakjdcaaDoorPart17
import Derived.Deep.RegionHeld3
import Derived.Test.YtheepcdlakjdcaaDoorPart16
import Derived.Test.YtheepcdlakjdcaaDoorPart15
import Derived.Test.YtheepcdlakjdcaaDoorPart14
import Derived.Test.YtheepcdlakjdcaaDoorPart09
import Derived.Deep.RegionLaw
import Derived.Test.YtheepcdlakjdcaaDoorPart06
import Derived.Test.YtheepcdlakjdcaaDoorPart07
import Derived.Test.YtheepcdlakjdcaaDoorPart13
import Derived.Test.YtheepcdlakjdcaaDoorPart12
import Derived.Deep.Cut
import Derived.BigQuiet
import Derived.Test.YtheepcdlakjdcaaDoorPart08
import Derived.Laws.Cover2
import Derived.Laws.Externs
import Derived.Test.YtheepcdlakjdcaaDoorPart04
import Derived.Laws.FloatArith
import Derived.Laws.BitsAllLaws
import Derived.Test.YtheepcdlakjdcaaDoorPart10
import Derived.Laws.BitsLemmas
/- The reference's Quotient. -/
namespace Go.Proofs.YtheepcdlakjdcaaDoor
open Go.RowKit
attribute [local go_sem ↓] Go.wp_at_zero Go.wp_at_succ
theorem QSt.as {w wr : World} {va vb vq vr : Value × Value} {zq zr zq' zr' : Int} (h : QSt w va vb wr vq zq vr zr) (h1 : zq = zq') (h2 : zr = zr') : QSt w va vb wr vq zq' vr zr' := by subst h1 h2; exact h
end Go.Proofs.YtheepcdlakjdcaaDoor

/- Go's own math.Ldexp of any number; the law CompareScales, walked. -/
namespace Go.Proofs.YtheepcdlakjdcaaDoor
open Go.RowKit
theorem rv_one : rv 4607182418800017408 = 2 ^ 1074 := by
  have := gM_rv 4607182418800017408 (by decide)
  rw [this, show gM 4607182418800017408 = 2 ^ 52 by decide, show 4607182418800017408 / 4503599627370496 - 1 = 1022 by decide]
  exact pow_join 52 1022 1074 (by decide)
theorem wrd_fin {s : Bool} {v : Nat} (h : v < 9218868437227405312) : fFin (wrd s v) = true := (fK_rungs _).2.2.2 (by rw [fR_wrd s v (by omega)]; exact h)
theorem wrd_ne0 {s : Bool} {v : Nat} (h : v < 9218868437227405312) (h0 : v ≠ 0) : fK (wrd s v) ≠ 0 := fun e => h0 (by have := (fK_zero _).1 e; rwa [fR_wrd s v (by omega)] at this)
theorem mul_one8 (s : Bool) (v : Nat) (h : v < 9218868437227405312) (h0 : v ≠ 0) : mV 4607182418800017408 (wrd s v) = wrd s v := by
  have f2 : fFin 4607182418800017408 = true := by decide
  have k2 : fK 4607182418800017408 ≠ 0 := by decide
  have s2 : fS 4607182418800017408 = false := by decide
  have r2 : fR 4607182418800017408 = 4607182418800017408 := by decide
  obtain ⟨K, hK⟩ : ∃ K : Nat, K = 1074 := ⟨_, rfl⟩
  have r3 := rv_one
  rw [← hK] at r3
  have hr := rnd_rv (wrd s v) (wrd_lt s v (by omega)) (wrd_fin h)
  rw [fR_wrd s v (by omega)] at hr
  rw [(mV_fin _ _ f2 (wrd_fin h) k2 (wrd_ne0 h h0)).1, s2, r2, r3, fR_wrd s v (by omega), fS_wrd s v (by omega), Bool.false_xor, Nat.mul_comm, rnd_scale1 _ _ _ (-1074) (by omega), hr]

end Go.Proofs.YtheepcdlakjdcaaDoor

/- A list of bits; the sum of all: contracts of sum's All and the reference's. -/
namespace Go.Proofs.YtheepcdlakjdcaaDoor
open Go.RowKit

/-- The bits I lie at ao. -/
def BitsAt (w : World) (ao : Option Addr) (cap : Nat) (I : List Int) : Prop :=
  I.length ≤ cap ∧ (∀ x ∈ I, 0 ≤ x ∧ x ≤ 18446744073709551615) ∧ (I = [] ∨ ∃ b off, ao = some ⟨b, off, none⟩ ∧ b < w.heap.size ∧ ∀ i, i < I.length → w.cell? ⟨b, off + i, none⟩ = some (.int .u64 (I[i]?.getD 0)))

theorem BitsAt.below {w w' : World} {ao : Option Addr} {cap : Nat} {I : List Int} (h : BitsAt w ao cap I) (hb : Below w.heap.size w w') : BitsAt w' ao cap I := by
  refine ⟨h.1, h.2.1, ?_⟩
  rcases h.2.2 with h | ⟨b, off, h1, h2, h3⟩
  · exact .inl h
  · refine .inr ⟨b, off, h1, Nat.lt_of_lt_of_le h2 hb.size, fun i hi => ?_⟩
    rw [hb.cell (p := ⟨b, off + i, none⟩) h2]
    exact h3 i hi
def atB (I : List Int) (j : Nat) : Nat := (I[j]?.getD 0).toNat
theorem BitsAt.wf {w : World} {ao : Option Addr} {cap : Nat} {I : List Int} (h : BitsAt w ao cap I) (j : Nat) : I[j]?.getD 0 = (atB I j : Int) ∧ atB I j < 18446744073709551616 := by
  unfold atB
  by_cases hi : j < I.length
  · have := h.2.1 _ (List.getElem_mem hi)
    rw [List.getElem?_eq_getElem hi]
    simp only [Option.getD_some]
    omega
  · rw [List.getElem?_eq_none (by omega)]; simp
theorem BitsAt.ne {w : World} {ao : Option Addr} {cap : Nat} {I : List Int} (h : BitsAt w ao cap I) (h0 : 0 < I.length) : ∃ b off, ao = some ⟨b, off, none⟩ ∧ b < w.heap.size ∧ ∀ i, i < I.length → w.cell? ⟨b, off + i, none⟩ = some (.int .u64 (atB I i : Int)) := by
  rcases h.2.2 with e | ⟨b, off, e1, e2, e3⟩
  · rw [e] at h0; simp at h0
  · exact ⟨b, off, e1, e2, fun i hi => by rw [e3 i hi, (h.wf i).1]⟩

end Go.Proofs.YtheepcdlakjdcaaDoor

/- Rounding errs by a part in 2^53: numbers as rational ones. Ahead of stage 9. -/
namespace Go.Proofs.YtheepcdlakjdcaaDoor
open Go.RowKit

/-- A power of two. -/
def p2 (e : Int) : Rat := (2 : Rat) ^ e
end Go.Proofs.YtheepcdlakjdcaaDoor

/- Package vector: operations without flags; the reference's with Go's own float64. -/
namespace Go.Proofs.YtheepcdlakjdcaaDoor
open Go.RowKit

set_option maxRecDepth 20000 in
set_option maxHeartbeats 2000000 in
theorem vadd_any (a b : Nat) (w : World) (ha : a < 18446744073709551616) (hb : b < 18446744073709551616) (hT : Tab w) :
    Calls Tryd.prog 53 #[.int .u64 a, .int .u64 b] w fun r w' => r = .returned (.int .u64 (aV a b : Nat)) ∧ Below w.heap.size w w' := by
  have K := hide (sadd_any a b w ha hb hT)
  clear ha hb hT
  generalize aV a b = o at *
  generalize aF a b = f at *
  go_enter Tryd.func53, Tryd.ntmps53
  go_wp2_with fail
  refine Calls.mono (unhide K) ?_
  rintro e w1 ⟨rfl, hb1⟩
  clear K
  go_wp2
  go_ret
  exact ⟨rfl, hb1⟩

set_option maxRecDepth 20000 in
set_option maxHeartbeats 2000000 in
theorem vmul_any (a b : Nat) (w : World) (ha : a < 18446744073709551616) (hb : b < 18446744073709551616) (hT : Tab w) :
    Calls Tryd.prog 54 #[.int .u64 a, .int .u64 b] w fun r w' => r = .returned (.int .u64 (mV a b : Nat)) ∧ Below w.heap.size w w' := by
  have K := hide (tmul_any a b w ha hb hT)
  clear ha hb hT
  generalize mV a b = o at *
  generalize mF a b = f at *
  go_enter Tryd.func54, Tryd.ntmps54
  go_wp2_with fail
  refine Calls.mono (unhide K) ?_
  rintro e w1 ⟨rfl, hb1⟩
  clear K
  go_wp2
  go_ret
  exact ⟨rfl, hb1⟩

set_option maxRecDepth 20000 in
set_option maxHeartbeats 2000000 in
theorem vfit_any (ao bo : Option Addr) (n m c d : Nat) (w : World) :
    Calls Tryd.prog 49 #[.slice ao n c, .slice bo m d] w fun r w' => r = .returned (.bool (decide (n ≤ 64 ∧ n = m))) ∧ w = w' := by
  by_cases h1 : n ≤ 64
  · have h1I : (n : Int) ≤ 64 := by omega
    by_cases h2 : n = m
    · rw [decide_eq_true (And.intro h1 h2)]
      subst h2
      go_enter Tryd.func49, Tryd.ntmps49
      go_wp2
      go_ret
      exact ⟨rfl, rfl⟩
    · rw [decide_eq_false (fun h => h2 h.2)]
      have h2I : decide ((n : Int) = (m : Int)) = false := decide_eq_false (by omega)
      go_enter Tryd.func49, Tryd.ntmps49
      go_wp2
      go_ret
      exact ⟨by simp; omega, rfl⟩
  · rw [decide_eq_false (fun h => h1 h.1)]
    have h1I : (64 : Int) < (n : Int) := by omega
    go_enter Tryd.func49, Tryd.ntmps49
    go_wp2
    go_ret
    exact ⟨by simp, rfl⟩

end Go.Proofs.YtheepcdlakjdcaaDoor

