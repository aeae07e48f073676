/- Part 19 of the texts. -/
import Derived.Test.YtfnnbkclnflpfaaGreatDoorPartK18
import Derived.Deep.RegionHeld3
import Derived.Test.YtfnnbkclnflpfaaGreatDoorPartK10
import Derived.Test.YtfnnbkclnflpfaaGreatDoorPartK08
import Derived.Test.YtfnnbkclnflpfaaGreatDoorPartK11
import Derived.Test.YtfnnbkclnflpfaaGreatDoorPartK17
import Derived.Test.YtfnnbkclnflpfaaGreatDoorPartK16
/- The reference's Quotient. -/
namespace Go.Proofs.YtfnnbkclnflpfaaGreatDoor
open Go.RowKit
attribute [local go_sem ↓] Go.wp_at_zero Go.wp_at_succ
theorem QSt.as {w wr : World} {va vb vq vr : Value × Value} {zq zr zq' zr' : Int} (h : QSt w va vb wr vq zq vr zr) (h1 : zq = zq') (h2 : zr = zr') : QSt w va vb wr vq zq' vr zr' := by subst h1 h2; exact h
theorem QSt.start (w : World) (x y x' y' : Value) :
    QSt w (x, y) (x', y') ((((((w.alloc (.cells #[x, y] 27)).alloc (.cells #[x', y'] 27)).alloc (.cells #[.bool false, .slice none 0 0] 27)).alloc (.cells #[.bool false, .slice none 0 0] 27)).alloc (.cells #[.bool false, .slice none 0 0] 27)).alloc (.cells #[.bool false, .slice none 0 0] 27)) (.bool false, .slice none 0 0) 0 (.bool false, .slice none 0 0) 0 := by
  have s1 : ∀ (u : World) (o : Obj), (u.alloc o).heap.size = u.heap.size + 1 := fun u o => by simp
  refine ⟨((((((Below.refl _ _).alloc (Nat.le_refl _) _).alloc (by simp) _).alloc (by simp; omega) _).alloc (by simp; omega) _).alloc (by simp; omega) _).alloc (by simp; omega) _, ?_, ?_, ?_, ?_, ?_, ?_, IsNum.zero _ _ _ _, IsNum.zero _ _ _ _⟩
  · exact (((((Box2.new _ _ _).old _).old _).old _).old _).old _
  · have := ((((Box2.new (w.alloc (.cells #[x, y] 27)) x' y').old (.cells #[.bool false, .slice none 0 0] 27)).old (.cells #[.bool false, .slice none 0 0] 27)).old (.cells #[.bool false, .slice none 0 0] 27)).old (.cells #[.bool false, .slice none 0 0] 27)
    simpa using this
  · have := (((Box2.new ((w.alloc (.cells #[x, y] 27)).alloc (.cells #[x', y'] 27)) (.bool false) (.slice none 0 0)).old (.cells #[.bool false, .slice none 0 0] 27)).old (.cells #[.bool false, .slice none 0 0] 27)).old (.cells #[.bool false, .slice none 0 0] 27)
    simpa using this
  · have := ((Box2.new (((w.alloc (.cells #[x, y] 27)).alloc (.cells #[x', y'] 27)).alloc (.cells #[.bool false, .slice none 0 0] 27)) (.bool false) (.slice none 0 0)).old (.cells #[.bool false, .slice none 0 0] 27)).old (.cells #[.bool false, .slice none 0 0] 27)
    simpa using this
  · have := (Box2.new ((((w.alloc (.cells #[x, y] 27)).alloc (.cells #[x', y'] 27)).alloc (.cells #[.bool false, .slice none 0 0] 27)).alloc (.cells #[.bool false, .slice none 0 0] 27)) (.bool false) (.slice none 0 0)).old (.cells #[.bool false, .slice none 0 0] 27)
    simpa using this
  · have := Box2.new (((((w.alloc (.cells #[x, y] 27)).alloc (.cells #[x', y'] 27)).alloc (.cells #[.bool false, .slice none 0 0] 27)).alloc (.cells #[.bool false, .slice none 0 0] 27)).alloc (.cells #[.bool false, .slice none 0 0] 27)) (.bool false) (.slice none 0 0)
    simpa using this

end Go.Proofs.YtfnnbkclnflpfaaGreatDoor

/- Trunc of any number; the reference's Scale, Int, Trunc, Exp of layer 8. -/
namespace Go.Proofs.YtfnnbkclnflpfaaGreatDoor
open Go.RowKit
set_option maxRecDepth 20000 in
set_option maxHeartbeats 2000000 in
theorem r8exp_no (a : Nat) (k : Int) (f : Bool) (w : World) (hw : f = false ∨ (f = true ∧ k = 0))
    (C1 : ∀ w', Calls Tryz.prog 89 #[.int .u64 a] w' fun r w'' => r = .returned (.bool f) ∧ w' = w'')
    (C2 : ∀ w', Calls Tryz.prog 28 #[.int .u64 a] w' fun r w'' => r = .returned (.int .i64 k) ∧ w' = w'') :
    Calls Tryz.prog 112 #[.int .u64 a] w fun r w' => r = .returned (.int .i64 0) ∧ Below w.heap.size w w' := by
  have K1 := hide C1; have K2 := hide C2
  clear C1 C2
  rcases hw with rfl | ⟨rfl, rfl⟩
  · go_enter Tryz.func112, Tryz.ntmps112
    go_wp2_with fail
    refine (unhide K1 _).mono ?_
    rintro e w1 ⟨rfl, rfl⟩
    go_wp2
    go_ret
    exact ⟨rfl, Below.refl _ _⟩
  · go_enter Tryz.func112, Tryz.ntmps112
    go_wp2_with fail
    refine (unhide K1 _).mono ?_
    rintro e w1 ⟨rfl, rfl⟩
    go_wp2_with fail
    refine (unhide K2 _).mono ?_
    rintro e w1 ⟨rfl, rfl⟩
    go_wp2
    go_ret
    exact ⟨rfl, Below.refl _ _⟩

set_option maxRecDepth 20000 in
set_option maxHeartbeats 2000000 in
theorem r8exp_of (a : Nat) (k D X t : Int) (w : World) (h0 : (k == 0) = false) (ht : -2000 ≤ t ∧ t ≤ 2000)
    (C1 : ∀ w', Calls Tryz.prog 89 #[.int .u64 a] w' fun r w'' => r = .returned (.bool true) ∧ w' = w'')
    (C2 : ∀ w', Calls Tryz.prog 28 #[.int .u64 a] w' fun r w'' => r = .returned (.int .i64 k) ∧ w' = w'')
    (C3 : ∀ w', Calls Tryz.prog 53 #[.int .u64 a] w' fun r w'' => ∃ u, r = .returned u ∧ IsDy w'' u D X ∧ Below w'.heap.size w' w'')
    (C4 : ∀ w' v, IsDy w' v D X → Calls Tryz.prog 103 #[v] w' fun r w'' => r = .returned (.int .i64 t) ∧ Below w'.heap.size w' w'') :
    Calls Tryz.prog 112 #[.int .u64 a] w fun r w' => r = .returned (.int .i64 (t - 1)) ∧ Below w.heap.size w w' := by
  have K1 := hide C1; have K2 := hide C2; have K3 := hide C3; have K4 := hide C4
  clear C1 C2 C3 C4
  have hw := wrap_small (t - 1) (by omega)
  go_enter Tryz.func112, Tryz.ntmps112
  go_wp2_with fail
  refine (unhide K1 _).mono ?_
  rintro e w1 ⟨rfl, rfl⟩
  go_wp2_with fail
  refine (unhide K2 _).mono ?_
  rintro e w1 ⟨rfl, rfl⟩
  go_wp2_with fail
  refine (unhide K3 _).mono ?_
  rintro e w1 ⟨v, rfl, hv, hb1⟩
  obtain ⟨n1, a1, c1, L1, rfl, i1⟩ := hv
  have HX := hide (show IsDy w1 (.agg #[.bool n1, .slice a1 L1.length c1, .int .i64 X]) D X from ⟨n1, a1, c1, L1, rfl, i1⟩)
  have B1 := hide hb1
  clear i1 hb1 K1 K2 K3
  generalize L1.length = l1 at *
  go_wp2_with fail
  refine (unhide K4 _ _ (unhide HX)).mono ?_
  rintro e w2 ⟨rfl, hb1⟩
  have B2 := hide ((unhide B1).trans (hb1.mono (unhide B1).size))
  clear hb1 B1 HX K4
  go_wp2
  go_ret
  exact ⟨rfl, unhide B2⟩

theorem rtopN {w : World} {v : Value} {D X : Int} (hv : IsDy w v D X) (h1 : D % 2 = 1) (h2 : D.natAbs < 9007199254740992) (h3 : -1074 ≤ X ∧ X ≤ 1024) :
    Calls Tryz.prog 103 #[v] w fun r w' => r = .returned (.int .i64 ((bl D.natAbs : Int) + X)) ∧ Below w.heap.size w w' := by
  obtain ⟨na, ao, ca, A, rfl, a1, a2, a3, a4, a5⟩ := hv.right (small_TOP _ (by omega))
  have := rtop_any na ao ca A X w a1 (by omega) (by omega)
  have hv : val A = D.natAbs := by rw [← a3, natAbs_sval]
  have hl := lenL_bl a1.2.1 a2
  have h0 : A.length ≠ 0 := fun h => by
    have := (sval_zero_iff a2).2 h
    omega
  unfold topR at this
  rw [if_neg h0, hl, hv] at this
  exact this

theorem r8exp_any (a : Nat) (w : World) (ha : a < 18446744073709551616) :
    Calls Tryz.prog 112 #[.int .u64 a] w fun r w' => r = .returned (.int .i64 (eX a)) ∧ Below w.heap.size w w' := by
  have C1 := fun w' => rfinite_any a w' ha
  have C2 := fun w' => rkind_any a w' ha
  unfold eX
  by_cases h : fK a = 4 ∨ fK a = 3 ∨ fK a = 0
  · rw [if_pos h]
    refine r8exp_no a _ _ w ?_ C1 C2
    rcases fK_cases a with ⟨h1, _⟩ | ⟨h1, h2⟩
    · exact .inl h1
    · exact .inr ⟨h1, by omega⟩
  · rw [if_neg h]
    have fa := fin_of a (by omega) (by omega)
    obtain ⟨z1, z2, z3, z4, z5, z6, z7, z8, z9⟩ := sc_facts a ha fa (by omega)
    rw [fa] at C1
    exact r8exp_of a _ (fD a) (fX a) _ w (by simp; omega) (by omega) C1 C2 (fun w' => rvalue_any a w' ha) (fun w' v hv => rtopN hv z1 z2 (by omega))

end Go.Proofs.YtfnnbkclnflpfaaGreatDoor

/- Contracts of times.sizeOf of any number, divFinite. -/
namespace Go.Proofs.YtfnnbkclnflpfaaGreatDoor
open Go.RowKit

/-- The limbs of a dyadic number at hand. -/
theorem IsDy.limbs {w : World} {n : Bool} {a : Option Addr} {l c : Nat} {X m Y : Int} (h : IsDy w (.agg #[.bool n, .slice a l c, .int .i64 X]) m Y) (hm : m.natAbs < TOP) :
    ∃ L, l = L.length ∧ LimbsAt w a c L ∧ rightB false L = true ∧ val L = m.natAbs ∧ L.length ≤ 512 := by
  obtain ⟨n', a', c', L, e1, h1, h2, h3, h4, h5⟩ := h.right hm
  simp only [Value.agg.injEq, Array.mk.injEq, List.cons.injEq, Value.bool.injEq, Value.slice.injEq, and_true] at e1
  obtain ⟨rfl, ⟨rfl, e2, rfl⟩, _⟩ := e1
  have hr : rightB false L = true := by
    simp only [rightB, Bool.and_eq_true, decide_eq_true_eq, Bool.not_eq_true', Bool.and_eq_false_iff, decide_eq_false_iff_not, Bool.or_eq_true] at h2 ⊢
    exact ⟨⟨h2.1.1, Or.inr trivial⟩, h2.2⟩
  exact ⟨L, e2, h1, hr, by rw [← h3, natAbs_sval], h4⟩

end Go.Proofs.YtfnnbkclnflpfaaGreatDoor

/- A list of bits; the sum of all: contracts of sum's All and the reference's. -/
namespace Go.Proofs.YtfnnbkclnflpfaaGreatDoor
open Go.RowKit

/-- The bits I lie at ao. -/
def BitsAt (w : World) (ao : Option Addr) (cap : Nat) (I : List Int) : Prop :=
  I.length ≤ cap ∧ (∀ x ∈ I, 0 ≤ x ∧ x ≤ 18446744073709551615) ∧ (I = [] ∨ ∃ b off, ao = some ⟨b, off, none⟩ ∧ b < w.heap.size ∧ ∀ i, i < I.length → w.cell? ⟨b, off + i, none⟩ = some (.int .u64 (I[i]?.getD 0)))

theorem BitsAt.below {w w' : World} {ao : Option Addr} {cap : Nat} {I : List Int} (h : BitsAt w ao cap I) (hb : Below w.heap.size w w') : BitsAt w' ao cap I := by
  refine ⟨h.1, h.2.1, ?_⟩
  rcases h.2.2 with h | ⟨b, off, h1, h2, h3⟩
  · exact .inl h
  · refine .inr ⟨b, off, h1, Nat.lt_of_lt_of_le h2 hb.size, fun i hi => ?_⟩
    rw [hb.cell (p := ⟨b, off + i, none⟩) h2]
    exact h3 i hi
def atB (I : List Int) (j : Nat) : Nat := (I[j]?.getD 0).toNat
theorem BitsAt.wf {w : World} {ao : Option Addr} {cap : Nat} {I : List Int} (h : BitsAt w ao cap I) (j : Nat) : I[j]?.getD 0 = (atB I j : Int) ∧ atB I j < 18446744073709551616 := by
  unfold atB
  by_cases hi : j < I.length
  · have := h.2.1 _ (List.getElem_mem hi)
    rw [List.getElem?_eq_getElem hi]
    simp only [Option.getD_some]
    omega
  · rw [List.getElem?_eq_none (by omega)]; simp
theorem BitsAt.ne {w : World} {ao : Option Addr} {cap : Nat} {I : List Int} (h : BitsAt w ao cap I) (h0 : 0 < I.length) : ∃ b off, ao = some ⟨b, off, none⟩ ∧ b < w.heap.size ∧ ∀ i, i < I.length → w.cell? ⟨b, off + i, none⟩ = some (.int .u64 (atB I i : Int)) := by
  rcases h.2.2 with e | ⟨b, off, e1, e2, e3⟩
  · rw [e] at h0; simp at h0
  · exact ⟨b, off, e1, e2, fun i hi => by rw [e3 i hi, (h.wf i).1]⟩

end Go.Proofs.YtfnnbkclnflpfaaGreatDoor

/- Rounding errs by a part in 2^53: numbers as rational ones. Ahead of stage 9. -/
namespace Go.Proofs.YtfnnbkclnflpfaaGreatDoor
open Go.RowKit

/-- A power of two. -/
def p2 (e : Int) : Rat := (2 : Rat) ^ e
end Go.Proofs.YtfnnbkclnflpfaaGreatDoor

