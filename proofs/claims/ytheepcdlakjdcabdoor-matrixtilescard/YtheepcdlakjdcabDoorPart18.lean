/- Part 18 of the texts. -/
import Derived.Test.YtheepcdlakjdcabDoorPart16
import Derived.Test.YtheepcdlakjdcabDoorPart17
import Derived.Test.YtheepcdlakjdcabDoorPart14
import Derived.Test.YtheepcdlakjdcabDoorPart12
import Derived.Test.YtheepcdlakjdcabDoorPart11
import Derived.Test.YtheepcdlakjdcabDoorPart09
import Derived.Deep.RegionLaw
import Derived.Test.YtheepcdlakjdcabDoorPart06
import Derived.Deep.RegionHeld3
import Derived.Test.YtheepcdlakjdcabDoorPart15
import Derived.Test.YtheepcdlakjdcabDoorPart07
import Derived.Test.YtheepcdlakjdcabDoorPart13
import Derived.Test.YtheepcdlakjdcabDoorPart08
import Derived.Laws.Cover2
import Derived.Laws.Externs
import Derived.Test.YtheepcdlakjdcabDoorPart04
import Derived.Laws.FloatArith
import Derived.Laws.BitsAllLaws
/- The reference's calls of layer 1 of numbers at hand, for its Quotient; what holds in Quotient's loop. -/
namespace Go.Proofs.YtheepcdlakjdcabDoor
open Go.RowKit
/-- What holds in Quotient: its boxes, the quotient's and the rest's numbers. -/
def QSt (w : World) (va vb : Value × Value) (wr : World) (vq : Value × Value) (zq : Int) (vr : Value × Value) (zr : Int) : Prop :=
  Below w.heap.size w wr ∧ Box2 wr w.heap.size va.1 va.2 ∧ Box2 wr (w.heap.size + 1) vb.1 vb.2 ∧ Box2 wr (w.heap.size + 1 + 1) (.bool false) (.slice none 0 0) ∧ Box2 wr (w.heap.size + 1 + 1 + 1) (.bool false) (.slice none 0 0) ∧ Box2 wr (w.heap.size + 1 + 1 + 1 + 1) vq.1 vq.2 ∧ Box2 wr (w.heap.size + 1 + 1 + 1 + 1 + 1) vr.1 vr.2 ∧ IsNum (w.heap.size + 6) wr (.agg #[vq.1, vq.2]) zq ∧ IsNum (w.heap.size + 6) wr (.agg #[vr.1, vr.2]) zr

theorem QSt.below {w wr w' : World} {va vb vq vr : Value × Value} {zq zr : Int} (h : QSt w va vb wr vq zq vr zr) (hb : Below wr.heap.size wr w') : QSt w va vb w' vq zq vr zr := by
  obtain ⟨h0, h1, h2, h3, h4, h5, h6, h7, h8⟩ := h
  exact ⟨h0.trans (hb.mono h0.size), h1.all hb, h2.all hb, h3.all hb, h4.all hb, h5.all hb, h6.all hb, h7.below hb, h8.below hb⟩
/-- The boxes' cells. -/
theorem QSt.cells {w wr : World} {va vb vq vr : Value × Value} {zq zr : Int} (h : QSt w va vb wr vq zq vr zr) :
    (wr.cell? ⟨w.heap.size, 0, none⟩ = some va.1 ∧ wr.cell? ⟨w.heap.size, 1, none⟩ = some va.2) ∧ (wr.cell? ⟨w.heap.size + 1, 0, none⟩ = some vb.1 ∧ wr.cell? ⟨w.heap.size + 1, 1, none⟩ = some vb.2) ∧
    (wr.cell? ⟨w.heap.size + 1 + 1 + 1 + 1, 0, none⟩ = some vq.1 ∧ wr.cell? ⟨w.heap.size + 1 + 1 + 1 + 1, 1, none⟩ = some vq.2 ∧ wr.frozen? ⟨w.heap.size + 1 + 1 + 1 + 1, 0, none⟩ = false ∧ wr.frozen? ⟨w.heap.size + 1 + 1 + 1 + 1, 1, none⟩ = false) ∧
    (wr.cell? ⟨w.heap.size + 1 + 1 + 1 + 1 + 1, 0, none⟩ = some vr.1 ∧ wr.cell? ⟨w.heap.size + 1 + 1 + 1 + 1 + 1, 1, none⟩ = some vr.2 ∧ wr.frozen? ⟨w.heap.size + 1 + 1 + 1 + 1 + 1, 0, none⟩ = false ∧ wr.frozen? ⟨w.heap.size + 1 + 1 + 1 + 1 + 1, 1, none⟩ = false) := by
  obtain ⟨h0, h1, h2, h3, h4, h5, h6, h7, h8⟩ := h
  exact ⟨⟨h1.c0, h1.c1⟩, ⟨h2.c0, h2.c1⟩, ⟨h5.c0, h5.c1, h5.free 0, h5.free 1⟩, ⟨h6.c0, h6.c1, h6.free 0, h6.free 1⟩⟩

end Go.Proofs.YtheepcdlakjdcabDoor

/- The reference's Quotient. -/
namespace Go.Proofs.YtheepcdlakjdcabDoor
open Go.RowKit
attribute [local go_sem ↓] Go.wp_at_zero Go.wp_at_succ
theorem QSt.as {w wr : World} {va vb vq vr : Value × Value} {zq zr zq' zr' : Int} (h : QSt w va vb wr vq zq vr zr) (h1 : zq = zq') (h2 : zr = zr') : QSt w va vb wr vq zq' vr zr' := by subst h1 h2; exact h
end Go.Proofs.YtheepcdlakjdcabDoor

/- Go's own math.Ldexp of any number; the law CompareScales, walked. -/
namespace Go.Proofs.YtheepcdlakjdcabDoor
open Go.RowKit
theorem rv_one : rv 4607182418800017408 = 2 ^ 1074 := by
  have := gM_rv 4607182418800017408 (by decide)
  rw [this, show gM 4607182418800017408 = 2 ^ 52 by decide, show 4607182418800017408 / 4503599627370496 - 1 = 1022 by decide]
  exact pow_join 52 1022 1074 (by decide)
theorem wrd_fin {s : Bool} {v : Nat} (h : v < 9218868437227405312) : fFin (wrd s v) = true := (fK_rungs _).2.2.2 (by rw [fR_wrd s v (by omega)]; exact h)
theorem wrd_ne0 {s : Bool} {v : Nat} (h : v < 9218868437227405312) (h0 : v ≠ 0) : fK (wrd s v) ≠ 0 := fun e => h0 (by have := (fK_zero _).1 e; rwa [fR_wrd s v (by omega)] at this)
theorem mul_one8 (s : Bool) (v : Nat) (h : v < 9218868437227405312) (h0 : v ≠ 0) : mV 4607182418800017408 (wrd s v) = wrd s v := by
  have f2 : fFin 4607182418800017408 = true := by decide
  have k2 : fK 4607182418800017408 ≠ 0 := by decide
  have s2 : fS 4607182418800017408 = false := by decide
  have r2 : fR 4607182418800017408 = 4607182418800017408 := by decide
  obtain ⟨K, hK⟩ : ∃ K : Nat, K = 1074 := ⟨_, rfl⟩
  have r3 := rv_one
  rw [← hK] at r3
  have hr := rnd_rv (wrd s v) (wrd_lt s v (by omega)) (wrd_fin h)
  rw [fR_wrd s v (by omega)] at hr
  rw [(mV_fin _ _ f2 (wrd_fin h) k2 (wrd_ne0 h h0)).1, s2, r2, r3, fR_wrd s v (by omega), fS_wrd s v (by omega), Bool.false_xor, Nat.mul_comm, rnd_scale1 _ _ _ (-1074) (by omega), hr]

end Go.Proofs.YtheepcdlakjdcabDoor

/- A list of bits; the sum of all: contracts of sum's All and the reference's. -/
namespace Go.Proofs.YtheepcdlakjdcabDoor
open Go.RowKit

/-- The bits I lie at ao. -/
def BitsAt (w : World) (ao : Option Addr) (cap : Nat) (I : List Int) : Prop :=
  I.length ≤ cap ∧ (∀ x ∈ I, 0 ≤ x ∧ x ≤ 18446744073709551615) ∧ (I = [] ∨ ∃ b off, ao = some ⟨b, off, none⟩ ∧ b < w.heap.size ∧ ∀ i, i < I.length → w.cell? ⟨b, off + i, none⟩ = some (.int .u64 (I[i]?.getD 0)))

theorem BitsAt.below {w w' : World} {ao : Option Addr} {cap : Nat} {I : List Int} (h : BitsAt w ao cap I) (hb : Below w.heap.size w w') : BitsAt w' ao cap I := by
  refine ⟨h.1, h.2.1, ?_⟩
  rcases h.2.2 with h | ⟨b, off, h1, h2, h3⟩
  · exact .inl h
  · refine .inr ⟨b, off, h1, Nat.lt_of_lt_of_le h2 hb.size, fun i hi => ?_⟩
    rw [hb.cell (p := ⟨b, off + i, none⟩) h2]
    exact h3 i hi
def atB (I : List Int) (j : Nat) : Nat := (I[j]?.getD 0).toNat
theorem BitsAt.wf {w : World} {ao : Option Addr} {cap : Nat} {I : List Int} (h : BitsAt w ao cap I) (j : Nat) : I[j]?.getD 0 = (atB I j : Int) ∧ atB I j < 18446744073709551616 := by
  unfold atB
  by_cases hi : j < I.length
  · have := h.2.1 _ (List.getElem_mem hi)
    rw [List.getElem?_eq_getElem hi]
    simp only [Option.getD_some]
    omega
  · rw [List.getElem?_eq_none (by omega)]; simp
theorem BitsAt.ne {w : World} {ao : Option Addr} {cap : Nat} {I : List Int} (h : BitsAt w ao cap I) (h0 : 0 < I.length) : ∃ b off, ao = some ⟨b, off, none⟩ ∧ b < w.heap.size ∧ ∀ i, i < I.length → w.cell? ⟨b, off + i, none⟩ = some (.int .u64 (atB I i : Int)) := by
  rcases h.2.2 with e | ⟨b, off, e1, e2, e3⟩
  · rw [e] at h0; simp at h0
  · exact ⟨b, off, e1, e2, fun i hi => by rw [e3 i hi, (h.wf i).1]⟩

end Go.Proofs.YtheepcdlakjdcabDoor

/- Rounding errs by a part in 2^53: numbers as rational ones. Ahead of stage 9. -/
namespace Go.Proofs.YtheepcdlakjdcabDoor
open Go.RowKit

/-- A power of two. -/
def p2 (e : Int) : Rat := (2 : Rat) ^ e
end Go.Proofs.YtheepcdlakjdcabDoor

