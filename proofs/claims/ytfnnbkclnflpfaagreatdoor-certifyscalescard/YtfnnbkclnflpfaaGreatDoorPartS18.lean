/- Part 18 of the texts. -/
import Derived.Test.YtfnnbkclnflpfaaGreatDoorPartS17
import Derived.Test.YtfnnbkclnflpfaaGreatDoorPartS16
import Derived.Test.YtfnnbkclnflpfaaGreatDoorPartS15
import Derived.Test.YtfnnbkclnflpfaaGreatDoorPartS14
import Derived.Test.YtfnnbkclnflpfaaGreatDoorPartS12
import Derived.Test.YtfnnbkclnflpfaaGreatDoorPartS11
import Derived.Test.YtfnnbkclnflpfaaGreatDoorPartS09
import Derived.Deep.RegionLaw
import Derived.Test.YtfnnbkclnflpfaaGreatDoorPartS06
import Derived.Deep.RegionHeld3
import Derived.Test.YtfnnbkclnflpfaaGreatDoorPartS07
import Derived.Test.YtfnnbkclnflpfaaGreatDoorPartS10
import Derived.Laws.Cover2
import Derived.Laws.Externs
import Derived.Test.YtfnnbkclnflpfaaGreatDoorPartS05
import Derived.Laws.FloatArith
/- The reference's calls of layer 1 of numbers at hand, for its Quotient; what holds in Quotient's loop. -/
namespace Go.Proofs.YtfnnbkclnflpfaaGreatDoor
open Go.RowKit
/-- What holds in Quotient: its boxes, the quotient's and the rest's numbers. -/
def QSt (w : World) (va vb : Value × Value) (wr : World) (vq : Value × Value) (zq : Int) (vr : Value × Value) (zr : Int) : Prop :=
  Below w.heap.size w wr ∧ Box2 wr w.heap.size va.1 va.2 ∧ Box2 wr (w.heap.size + 1) vb.1 vb.2 ∧ Box2 wr (w.heap.size + 1 + 1) (.bool false) (.slice none 0 0) ∧ Box2 wr (w.heap.size + 1 + 1 + 1) (.bool false) (.slice none 0 0) ∧ Box2 wr (w.heap.size + 1 + 1 + 1 + 1) vq.1 vq.2 ∧ Box2 wr (w.heap.size + 1 + 1 + 1 + 1 + 1) vr.1 vr.2 ∧ IsNum (w.heap.size + 6) wr (.agg #[vq.1, vq.2]) zq ∧ IsNum (w.heap.size + 6) wr (.agg #[vr.1, vr.2]) zr

theorem QSt.below {w wr w' : World} {va vb vq vr : Value × Value} {zq zr : Int} (h : QSt w va vb wr vq zq vr zr) (hb : Below wr.heap.size wr w') : QSt w va vb w' vq zq vr zr := by
  obtain ⟨h0, h1, h2, h3, h4, h5, h6, h7, h8⟩ := h
  exact ⟨h0.trans (hb.mono h0.size), h1.all hb, h2.all hb, h3.all hb, h4.all hb, h5.all hb, h6.all hb, h7.below hb, h8.below hb⟩
/-- The boxes' cells. -/
theorem QSt.cells {w wr : World} {va vb vq vr : Value × Value} {zq zr : Int} (h : QSt w va vb wr vq zq vr zr) :
    (wr.cell? ⟨w.heap.size, 0, none⟩ = some va.1 ∧ wr.cell? ⟨w.heap.size, 1, none⟩ = some va.2) ∧ (wr.cell? ⟨w.heap.size + 1, 0, none⟩ = some vb.1 ∧ wr.cell? ⟨w.heap.size + 1, 1, none⟩ = some vb.2) ∧
    (wr.cell? ⟨w.heap.size + 1 + 1 + 1 + 1, 0, none⟩ = some vq.1 ∧ wr.cell? ⟨w.heap.size + 1 + 1 + 1 + 1, 1, none⟩ = some vq.2 ∧ wr.frozen? ⟨w.heap.size + 1 + 1 + 1 + 1, 0, none⟩ = false ∧ wr.frozen? ⟨w.heap.size + 1 + 1 + 1 + 1, 1, none⟩ = false) ∧
    (wr.cell? ⟨w.heap.size + 1 + 1 + 1 + 1 + 1, 0, none⟩ = some vr.1 ∧ wr.cell? ⟨w.heap.size + 1 + 1 + 1 + 1 + 1, 1, none⟩ = some vr.2 ∧ wr.frozen? ⟨w.heap.size + 1 + 1 + 1 + 1 + 1, 0, none⟩ = false ∧ wr.frozen? ⟨w.heap.size + 1 + 1 + 1 + 1 + 1, 1, none⟩ = false) := by
  obtain ⟨h0, h1, h2, h3, h4, h5, h6, h7, h8⟩ := h
  exact ⟨⟨h1.c0, h1.c1⟩, ⟨h2.c0, h2.c1⟩, ⟨h5.c0, h5.c1, h5.free 0, h5.free 1⟩, ⟨h6.c0, h6.c1, h6.free 0, h6.free 1⟩⟩

end Go.Proofs.YtfnnbkclnflpfaaGreatDoor

/- The reference's Quotient. -/
namespace Go.Proofs.YtfnnbkclnflpfaaGreatDoor
open Go.RowKit
attribute [local go_sem ↓] Go.wp_at_zero Go.wp_at_succ
theorem QSt.as {w wr : World} {va vb vq vr : Value × Value} {zq zr zq' zr' : Int} (h : QSt w va vb wr vq zq vr zr) (h1 : zq = zq') (h2 : zr = zr') : QSt w va vb wr vq zq' vr zr' := by subst h1 h2; exact h
theorem QSt.start (w : World) (x y x' y' : Value) :
    QSt w (x, y) (x', y') ((((((w.alloc (.cells #[x, y] 27)).alloc (.cells #[x', y'] 27)).alloc (.cells #[.bool false, .slice none 0 0] 27)).alloc (.cells #[.bool false, .slice none 0 0] 27)).alloc (.cells #[.bool false, .slice none 0 0] 27)).alloc (.cells #[.bool false, .slice none 0 0] 27)) (.bool false, .slice none 0 0) 0 (.bool false, .slice none 0 0) 0 := by
  have s1 : ∀ (u : World) (o : Obj), (u.alloc o).heap.size = u.heap.size + 1 := fun u o => by simp
  refine ⟨((((((Below.refl _ _).alloc (Nat.le_refl _) _).alloc (by simp) _).alloc (by simp; omega) _).alloc (by simp; omega) _).alloc (by simp; omega) _).alloc (by simp; omega) _, ?_, ?_, ?_, ?_, ?_, ?_, IsNum.zero _ _ _ _, IsNum.zero _ _ _ _⟩
  · exact (((((Box2.new _ _ _).old _).old _).old _).old _).old _
  · have := ((((Box2.new (w.alloc (.cells #[x, y] 27)) x' y').old (.cells #[.bool false, .slice none 0 0] 27)).old (.cells #[.bool false, .slice none 0 0] 27)).old (.cells #[.bool false, .slice none 0 0] 27)).old (.cells #[.bool false, .slice none 0 0] 27)
    simpa using this
  · have := (((Box2.new ((w.alloc (.cells #[x, y] 27)).alloc (.cells #[x', y'] 27)) (.bool false) (.slice none 0 0)).old (.cells #[.bool false, .slice none 0 0] 27)).old (.cells #[.bool false, .slice none 0 0] 27)).old (.cells #[.bool false, .slice none 0 0] 27)
    simpa using this
  · have := ((Box2.new (((w.alloc (.cells #[x, y] 27)).alloc (.cells #[x', y'] 27)).alloc (.cells #[.bool false, .slice none 0 0] 27)) (.bool false) (.slice none 0 0)).old (.cells #[.bool false, .slice none 0 0] 27)).old (.cells #[.bool false, .slice none 0 0] 27)
    simpa using this
  · have := (Box2.new ((((w.alloc (.cells #[x, y] 27)).alloc (.cells #[x', y'] 27)).alloc (.cells #[.bool false, .slice none 0 0] 27)).alloc (.cells #[.bool false, .slice none 0 0] 27)) (.bool false) (.slice none 0 0)).old (.cells #[.bool false, .slice none 0 0] 27)
    simpa using this
  · have := Box2.new (((((w.alloc (.cells #[x, y] 27)).alloc (.cells #[x', y'] 27)).alloc (.cells #[.bool false, .slice none 0 0] 27)).alloc (.cells #[.bool false, .slice none 0 0] 27)).alloc (.cells #[.bool false, .slice none 0 0] 27)) (.bool false) (.slice none 0 0)
    simpa using this

end Go.Proofs.YtfnnbkclnflpfaaGreatDoor

/- Trunc of any number; the reference's Scale, Int, Trunc, Exp of layer 8. -/
namespace Go.Proofs.YtfnnbkclnflpfaaGreatDoor
open Go.RowKit
set_option maxRecDepth 20000 in
set_option maxHeartbeats 2000000 in
theorem r8exp_no (a : Nat) (k : Int) (f : Bool) (w : World) (hw : f = false ∨ (f = true ∧ k = 0))
    (C1 : ∀ w', Calls Tryz.prog 89 #[.int .u64 a] w' fun r w'' => r = .returned (.bool f) ∧ w' = w'')
    (C2 : ∀ w', Calls Tryz.prog 28 #[.int .u64 a] w' fun r w'' => r = .returned (.int .i64 k) ∧ w' = w'') :
    Calls Tryz.prog 112 #[.int .u64 a] w fun r w' => r = .returned (.int .i64 0) ∧ Below w.heap.size w w' := by
  have K1 := hide C1; have K2 := hide C2
  clear C1 C2
  rcases hw with rfl | ⟨rfl, rfl⟩
  · go_enter Tryz.func112, Tryz.ntmps112
    go_wp2_with fail
    refine (unhide K1 _).mono ?_
    rintro e w1 ⟨rfl, rfl⟩
    go_wp2
    go_ret
    exact ⟨rfl, Below.refl _ _⟩
  · go_enter Tryz.func112, Tryz.ntmps112
    go_wp2_with fail
    refine (unhide K1 _).mono ?_
    rintro e w1 ⟨rfl, rfl⟩
    go_wp2_with fail
    refine (unhide K2 _).mono ?_
    rintro e w1 ⟨rfl, rfl⟩
    go_wp2
    go_ret
    exact ⟨rfl, Below.refl _ _⟩

set_option maxRecDepth 20000 in
set_option maxHeartbeats 2000000 in
theorem r8exp_of (a : Nat) (k D X t : Int) (w : World) (h0 : (k == 0) = false) (ht : -2000 ≤ t ∧ t ≤ 2000)
    (C1 : ∀ w', Calls Tryz.prog 89 #[.int .u64 a] w' fun r w'' => r = .returned (.bool true) ∧ w' = w'')
    (C2 : ∀ w', Calls Tryz.prog 28 #[.int .u64 a] w' fun r w'' => r = .returned (.int .i64 k) ∧ w' = w'')
    (C3 : ∀ w', Calls Tryz.prog 53 #[.int .u64 a] w' fun r w'' => ∃ u, r = .returned u ∧ IsDy w'' u D X ∧ Below w'.heap.size w' w'')
    (C4 : ∀ w' v, IsDy w' v D X → Calls Tryz.prog 103 #[v] w' fun r w'' => r = .returned (.int .i64 t) ∧ Below w'.heap.size w' w'') :
    Calls Tryz.prog 112 #[.int .u64 a] w fun r w' => r = .returned (.int .i64 (t - 1)) ∧ Below w.heap.size w w' := by
  have K1 := hide C1; have K2 := hide C2; have K3 := hide C3; have K4 := hide C4
  clear C1 C2 C3 C4
  have hw := wrap_small (t - 1) (by omega)
  go_enter Tryz.func112, Tryz.ntmps112
  go_wp2_with fail
  refine (unhide K1 _).mono ?_
  rintro e w1 ⟨rfl, rfl⟩
  go_wp2_with fail
  refine (unhide K2 _).mono ?_
  rintro e w1 ⟨rfl, rfl⟩
  go_wp2_with fail
  refine (unhide K3 _).mono ?_
  rintro e w1 ⟨v, rfl, hv, hb1⟩
  obtain ⟨n1, a1, c1, L1, rfl, i1⟩ := hv
  have HX := hide (show IsDy w1 (.agg #[.bool n1, .slice a1 L1.length c1, .int .i64 X]) D X from ⟨n1, a1, c1, L1, rfl, i1⟩)
  have B1 := hide hb1
  clear i1 hb1 K1 K2 K3
  generalize L1.length = l1 at *
  go_wp2_with fail
  refine (unhide K4 _ _ (unhide HX)).mono ?_
  rintro e w2 ⟨rfl, hb1⟩
  have B2 := hide ((unhide B1).trans (hb1.mono (unhide B1).size))
  clear hb1 B1 HX K4
  go_wp2
  go_ret
  exact ⟨rfl, unhide B2⟩

theorem rtopN {w : World} {v : Value} {D X : Int} (hv : IsDy w v D X) (h1 : D % 2 = 1) (h2 : D.natAbs < 9007199254740992) (h3 : -1074 ≤ X ∧ X ≤ 1024) :
    Calls Tryz.prog 103 #[v] w fun r w' => r = .returned (.int .i64 ((bl D.natAbs : Int) + X)) ∧ Below w.heap.size w w' := by
  obtain ⟨na, ao, ca, A, rfl, a1, a2, a3, a4, a5⟩ := hv.right (small_TOP _ (by omega))
  have := rtop_any na ao ca A X w a1 (by omega) (by omega)
  have hv : val A = D.natAbs := by rw [← a3, natAbs_sval]
  have hl := lenL_bl a1.2.1 a2
  have h0 : A.length ≠ 0 := fun h => by
    have := (sval_zero_iff a2).2 h
    omega
  unfold topR at this
  rw [if_neg h0, hl, hv] at this
  exact this

theorem r8exp_any (a : Nat) (w : World) (ha : a < 18446744073709551616) :
    Calls Tryz.prog 112 #[.int .u64 a] w fun r w' => r = .returned (.int .i64 (eX a)) ∧ Below w.heap.size w w' := by
  have C1 := fun w' => rfinite_any a w' ha
  have C2 := fun w' => rkind_any a w' ha
  unfold eX
  by_cases h : fK a = 4 ∨ fK a = 3 ∨ fK a = 0
  · rw [if_pos h]
    refine r8exp_no a _ _ w ?_ C1 C2
    rcases fK_cases a with ⟨h1, _⟩ | ⟨h1, h2⟩
    · exact .inl h1
    · exact .inr ⟨h1, by omega⟩
  · rw [if_neg h]
    have fa := fin_of a (by omega) (by omega)
    obtain ⟨z1, z2, z3, z4, z5, z6, z7, z8, z9⟩ := sc_facts a ha fa (by omega)
    rw [fa] at C1
    exact r8exp_of a _ (fD a) (fX a) _ w (by simp; omega) (by omega) C1 C2 (fun w' => rvalue_any a w' ha) (fun w' v hv => rtopN hv z1 z2 (by omega))

end Go.Proofs.YtfnnbkclnflpfaaGreatDoor

/- The law SumRises, walked. -/
namespace Go.Proofs.YtfnnbkclnflpfaaGreatDoor
open Go.RowKit

theorem frombits5 (R : Nat) (W : World) : (callFunc 122 #[.int .u64 R]).run Tryz.prog W = .ok (.value (.float .f64 R)) W := by
  rw [run_callFunc_extern (e := Extern.MathFloatBits.float64frombits) Tryz.func122 (by kernel_rfl) (by kernel_rfl) (by kernel_rfl) (by kernel_rfl)]
  show ((pure (.float .f64 ((R : Int).toNat)) : Sem Value).run Tryz.prog W).andThen (fun v w' => .ok (Next.value v) w') = _
  simp

end Go.Proofs.YtfnnbkclnflpfaaGreatDoor

/- The law SumFloats, walked. -/
namespace Go.Proofs.YtfnnbkclnflpfaaGreatDoor
open Go.RowKit

/-- What a float operation gives, and the world behind it: where it has no answer, some number that is none is drawn. -/
def fres (o : Option Nat) (x y : Nat) (w : World) : Nat :=
  match o with
  | some r => r
  | none => (Question.nanBits .f64 x y).cut (w.tape w.drawn (.nanBits .f64 x y))
def fwld (o : Option Nat) (w : World) : World :=
  match o with
  | some _ => w
  | none => { w with drawn := w.drawn + 1 }

theorem tobits5 (R : Nat) (W : World) : (callFunc 119 #[.float .f64 R]).run Tryz.prog W = .ok (.value (.int .u64 R)) W := by
  rw [run_callFunc_extern (e := Extern.MathFloatBits.float64bits) Tryz.func119 (by kernel_rfl) (by kernel_rfl) (by kernel_rfl) (by kernel_rfl)]
  show ((pure (.int .u64 (R : Int)) : Sem Value).run Tryz.prog W).andThen (fun v w' => .ok (Next.value v) w') = _
  simp

set_option maxRecDepth 20000 in
set_option maxHeartbeats 2000000 in
theorem canon_any (b : Nat) (w : World) (h : b < 18446744073709551616) :
    Calls Tryz.prog 118 #[.int .u64 b] w fun r w' => r = .returned (.int .u64 ((if fK b = 4 then 9221120237041090560 else b : Nat) : Int)) ∧ w = w' := by
  have K := hide (fun w' => rkind_any b w' h)
  have hw : IntKind.u64.wrap (b : Int) = (b : Int) := by simp only [IntKind.wrap_u64]; omega
  by_cases h4 : fK b = 4
  · rw [if_pos h4]
    rw [h4] at K
    clear h4 h
    go_enter Tryz.func118, Tryz.ntmps118
    go_wp2_with fail
    refine (unhide K _).mono ?_
    rintro e w1 ⟨rfl, rfl⟩
    go_wp2
    go_ret
    exact ⟨rfl, rfl⟩
  · rw [if_neg h4]
    have hk : (fK b == 4) = false := by simp [h4]
    generalize fK b = k at *
    clear h4 h
    go_enter Tryz.func118, Tryz.ntmps118
    go_wp2_with fail
    refine (unhide K _).mono ?_
    rintro e w1 ⟨rfl, rfl⟩
    go_wp2
    go_ret
    exact ⟨rfl, rfl⟩

end Go.Proofs.YtfnnbkclnflpfaaGreatDoor

