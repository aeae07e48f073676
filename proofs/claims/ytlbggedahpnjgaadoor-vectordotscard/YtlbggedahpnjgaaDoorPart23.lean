/- Part 23 of the texts. -/
import Derived.Test.YtlbggedahpnjgaaDoorPart22
import Derived.BigQuiet
import Derived.Test.YtlbggedahpnjgaaDoorPart20
import Derived.Test.YtlbggedahpnjgaaDoorPart19
/- Contract of the reference's Nearest, where digits are dropped: the walk. -/
namespace Go.Proofs.YtlbggedahpnjgaaDoor
open Go.RowKit

theorem at_thenB {K : Act → World → Prop} {Q : Exit → Act → World → Prop} {a : Act} {w : World} (F : World → Prop) (h : F w) (k : ∀ W, F W → Exit.then K Q .normal a W) : Exit.then K Q .normal a w := k w h

/-- What stands behind the rest: its box g, the number in it, the quotient's box. -/
def TailN (w : World) (g1 : Nat) (n : Bool) (a : Option Addr) (l c : Nat) (np : Bool) (ap : Option Addr) (lp cp : Nat) (q R X : Int) (g : Nat) (W : World) : Prop :=
  Below w.heap.size w W ∧ Box3 W g (.bool np) (.slice ap lp cp) (.int .i64 X) ∧ IsDy W (.agg #[.bool np, .slice ap lp cp, .int .i64 X]) R X ∧ Box2 W g1 (.bool n) (.slice a l c) ∧ IsNum 0 W (.agg #[.bool n, .slice a l c]) q

theorem IsNum.box3 {B : Nat} {w : World} {v : Value} {x : Int} (h : IsNum B w v x) {g : Nat} {y : Bool} {a : Option Addr} {n c : Nat} {k : Int} (hx : Box3 w g (.bool y) (.slice a n c) (.int .i64 k)) (u u' u'' : Value) : IsNum B (((w.setCell ⟨g, 0, none⟩ u).setCell ⟨g, 1, none⟩ u').setCell ⟨g, 2, none⟩ u'') v x := by
  obtain ⟨neg, ao, cap, L, h1, h2, h3⟩ := h
  exact ⟨neg, ao, cap, L, h1, h2.box3 hx _ _ _, h3⟩

theorem Box2.other3 {w : World} {b g : Nat} {x y : Value} (h : Box2 w b x y) (hne : b ≠ g) (u u' u'' : Value) : Box2 (((w.setCell ⟨g, 0, none⟩ u).setCell ⟨g, 1, none⟩ u').setCell ⟨g, 2, none⟩ u'') b x y :=
  ((h.other (p := ⟨g, 0, none⟩) hne u).other (p := ⟨g, 1, none⟩) hne u').other (p := ⟨g, 2, none⟩) hne u''

end Go.Proofs.YtlbggedahpnjgaaDoor

/- Contract of the reference's Nearest, any number. -/
namespace Go.Proofs.YtlbggedahpnjgaaDoor
open Go.RowKit

theorem lvl_of {z : Int} {lo : Int} {W : Nat} (h : z.natAbs < 2 ^ W) (h1 : -16384 ≤ lo) (h2 : lo + W ≤ 16384) (h3 : W ≤ 16384) : Lvl lo W z := ⟨h, h1, h2, h3⟩

theorem cmpI_nat (a b : Nat) : cmpI (a : Int) (b : Int) = if a < b then -1 else if a = b then 0 else 1 := by
  unfold cmpI
  repeat' split
  all_goals omega

theorem odd_oM {z : Int} (h : z % 2 = 1) (e : Int) : oM z = z ∧ oE z e = e := by
  have h0 : z ≠ 0 := by omega
  have := (oddOf z h0).unique (m' := z) (k' := 0) ⟨by simp, h⟩
  exact ⟨this.1, by rw [oE_ne _ _ h0, this.2]; simp⟩

end Go.Proofs.YtlbggedahpnjgaaDoor

/- The reference's Round: the walks. -/
namespace Go.Proofs.YtlbggedahpnjgaaDoor
open Go.RowKit

end Go.Proofs.YtlbggedahpnjgaaDoor

/- Contract of the reference's Round; the law SoftRounds, walked. -/
namespace Go.Proofs.YtlbggedahpnjgaaDoor
open Go.RowKit

theorem fK_rung (r : Nat) (h : r ≤ 9218868437227405312) : (fK r = 3 ↔ r = 9218868437227405312) ∧ (r ≠ 9218868437227405312 → (fK r = 2 ↔ ¬ r < 4503599627370496)) := by
  have h1 : fP r = r / 4503599627370496 := by unfold fP; omega
  have h2 : fF r = r % 4503599627370496 := rfl
  unfold fK
  rw [h1, h2]
  constructor
  · constructor
    · intro hk
      split at hk
      · omega
      · split at hk
        · split at hk <;> simp at hk
        · simp at hk
    · rintro rfl; decide
  · intro hne
    have h3 : r / 4503599627370496 ≠ 2047 := by omega
    rw [if_neg h3]
    by_cases h4 : r < 4503599627370496
    · rw [if_pos (by omega)]
      constructor
      · intro hk; split at hk <;> simp at hk
      · intro h; exact absurd h4 h
    · rw [if_neg (by omega)]
      exact ⟨fun _ => h4, fun _ => rfl⟩

theorem flags_rflag (V : Nat) (E : Int) (h : V ≠ 0) : (if fK (rnd V E) = 3 then 5 else if decide (lastE V E ≤ E) = true then 0 else if fK (rnd V E) = 2 then 1 else 3) = rflag V E := by
  obtain ⟨k1, k2⟩ := fK_rung (rnd V E) (rnd_le V E)
  by_cases ht : 1024 < (bl V : Int) + E
  · have e1 : rnd V E = 9218868437227405312 := by unfold rnd; rw [if_neg h, if_pos ht]
    have e2 : rflag V E = 5 := by unfold rflag; rw [if_neg h, if_pos ht]
    rw [if_pos (k1.2 e1), e2]
  · have e2 : rflag V E = if lastE V E ≤ E then 0 else if rnd V E = 9218868437227405312 then 5 else if rnd V E < 4503599627370496 then 3 else 1 := by unfold rflag; rw [if_neg h, if_neg ht]
    rw [e2]
    by_cases g1 : lastE V E ≤ E
    · have := rnd_exact_lt V E h (by omega) g1
      rw [if_neg (fun hk => by have := k1.1 hk; omega), if_pos (decide_eq_true g1), if_pos g1]
    · rw [if_neg g1, decide_eq_false g1]
      by_cases g2 : rnd V E = 9218868437227405312
      · rw [if_pos (k1.2 g2), if_pos g2]
      · rw [if_neg (fun hk => g2 (k1.1 hk)), if_neg g2, if_neg (by decide)]
        by_cases g3 : rnd V E < 4503599627370496
        · rw [if_neg (fun hk => (k2 g2).1 hk g3), if_pos g3]
        · rw [if_pos ((k2 g2).2 g3), if_neg g3]

theorem rnd_tiny (V : Nat) (E : Int) (h : V ≠ 0) (ht : (bl V : Int) + E < -1080) : rnd V E = 0 ∧ rflag V E = 3 := by
  obtain ⟨a1, a2, a3⟩ := bl_spec V h
  have hl : lastE V E = -1074 := by unfold lastE; omega
  have h0 : rnd V E = 0 := by
    rw [rnd_fin V E h (by omega)]
    unfold rndM
    rw [hl]
    obtain ⟨k, hk⟩ : ∃ k : Nat, -1074 - E = (k : Int) := ⟨(-1074 - E).toNat, by omega⟩
    rw [show E - -1074 = -(k : Int) by omega, mS_down V k (by omega)]
    have h1 : V < 2 ^ (k - 1) := Nat.lt_of_lt_of_le a3 (pow_le2 (by omega))
    have h2 : 2 ^ k = 2 ^ (k - 1) * 2 := by
      obtain ⟨m, rfl⟩ : ∃ m, k = m + 1 := ⟨k - 1, by omega⟩
      exact Nat.pow_succ 2 m
    have h3 : V < 2 ^ k := by omega
    unfold cutE
    rw [Nat.div_eq_of_lt h3, Nat.mod_eq_of_lt h3, if_neg (by omega)]
    simp
  refine ⟨h0, ?_⟩
  unfold rflag
  rw [if_neg h, if_neg (by omega), if_neg (by omega), h0, if_neg (by decide), if_pos (by decide)]

end Go.Proofs.YtlbggedahpnjgaaDoor

/- Contracts of package sum: nought, addFinite, Add, Sub. -/
namespace Go.Proofs.YtlbggedahpnjgaaDoor
open Go.RowKit

def aO (s t : Bool) : Nat := if (s && t) = true then 9223372036854775808 else 0

set_option maxRecDepth 20000 in
set_option maxHeartbeats 2000000 in
theorem nought_any (a b : Nat) (w : World) (ha : a < 18446744073709551616) (hb : b < 18446744073709551616) :
    Calls Tryd.prog 53 #[.int .u64 a, .int .u64 b] w fun e w' => e = .returned (.int .u64 (aO (fS a) (fS b) : Nat)) ∧ Below w.heap.size w w' := by
  have C1 := hide (fun w' => ssign_any a w' ha)
  have C2 := hide (fun w' => ssign_any b w' hb)
  generalize fS a = s at *
  generalize fS b = t at *
  clear ha hb
  go_enter Tryd.func53, Tryd.ntmps53
  go_wp2_with fail
  refine (unhide C1 _).mono ?_
  rintro e w1 ⟨rfl, hb1⟩
  cases s
  · go_wp2
    go_ret
    exact ⟨rfl, hb1⟩
  · go_wp2_with fail
    refine (unhide C2 _).mono ?_
    rintro e w2 ⟨rfl, hb2⟩
    cases t
    · go_wp2
      go_ret
      exact ⟨rfl, hb1.trans (hb2.mono hb1.size)⟩
    · go_wp2
      go_ret
      exact ⟨rfl, hb1.trans (hb2.mono hb1.size)⟩

theorem dy_len {w : World} {n : Bool} {a : Option Addr} {l c : Nat} {e m X : Int} (h : IsDy w (.agg #[.bool n, .slice a l c, .int .i64 e]) m X) : ((l : Int) == 0) = decide (m = 0) := by
  obtain ⟨n', a', c', L', e1, _, e3, _, e5, _⟩ := h.parts
  simp only [Value.agg.injEq, Array.mk.injEq, List.cons.injEq, Value.slice.injEq] at e1
  have e2 := e1.2.1.2.1
  by_cases h0 : m = 0
  · have : L' = [] := (val_zero_of_canon L' e3).1 (by rw [e5, h0]; rfl)
    rw [decide_eq_true h0, e2, this]; rfl
  · have : L'.length ≠ 0 := fun h1 => by
      have : L' = [] := List.length_eq_zero_iff.1 h1
      rw [this] at e5
      simp [val] at e5
      omega
    rw [decide_eq_false h0]; simp; omega

set_option maxRecDepth 20000 in
set_option maxHeartbeats 4000000 in
theorem addFinite_z (a b : Nat) (z1 z2 X1 X2 X3 : Int) (w : World) (o : Nat)
    (C1 : ∀ w', Below w.heap.size w w' → Calls Tryd.prog 32 #[.int .u64 a] w' fun r w'' => DyR w'' r 0 z1 X1 ∧ Below w'.heap.size w' w'')
    (C2 : ∀ w', Below w.heap.size w w' → Calls Tryd.prog 32 #[.int .u64 b] w' fun r w'' => DyR w'' r 0 z2 X2 ∧ Below w'.heap.size w' w'')
    (C3 : ∀ w' v u, Below w.heap.size w w' → IsDy w' v z1 X1 → IsDy w' u z2 X2 → Calls Tryd.prog 52 #[v, u] w' fun r w'' => DyR w'' r 0 0 X3 ∧ Below w'.heap.size w' w'')
    (C4 : ∀ w', Calls Tryd.prog 53 #[.int .u64 a, .int .u64 b] w' fun r w'' => r = .returned (.int .u64 (o : Nat)) ∧ Below w'.heap.size w' w'') :
    Calls Tryd.prog 37 #[.int .u64 a, .int .u64 b] w fun r w' => r = .returned (.tuple #[.int .u64 (o : Nat), .int .u8 0]) ∧ Below w.heap.size w w' := by
  have K1 := hide C1; have K2 := hide C2; have K3 := hide C3; have K4 := hide C4
  clear C1 C2 C3 C4
  go_enter Tryd.func37, Tryd.ntmps37
  go_wp2_with fail
  refine (unhide K1 _ (Below.refl _ _)).mono ?_
  rintro e w1 ⟨⟨v, rfl, hv⟩, hb1⟩
  obtain ⟨n1, a1, c1, L1, rfl, i1⟩ := hv
  have hb1a : Below w1.heap.size w1 (w1.alloc (.cells #[.bool n1, .slice a1 L1.length c1, .int .i64 X1] 53)) := (Below.refl _ _).alloc (Nat.le_refl _) _
  have HV := hide ((show IsDy w1 (.agg #[.bool n1, .slice a1 L1.length c1, .int .i64 X1]) z1 X1 from ⟨n1, a1, c1, L1, rfl, i1⟩).below hb1a)
  have X := hide (Box3.new w1 (.bool n1) (.slice a1 L1.length c1) (.int .i64 X1))
  have B1 := hide (hb1.trans (hb1a.mono hb1.size))
  clear i1 hb1 hb1a K1
  go_wp2_with fail
  refine (unhide K2 _ (unhide B1)).mono ?_
  rintro e w2 ⟨⟨v, rfl, hv⟩, hb1⟩
  obtain ⟨n2, a2, c2, L2, rfl, i2⟩ := hv
  have hb1a : Below w2.heap.size w2 (w2.alloc (.cells #[.bool n2, .slice a2 L2.length c2, .int .i64 X2] 53)) := (Below.refl _ _).alloc (Nat.le_refl _) _
  have HU := hide ((show IsDy w2 (.agg #[.bool n2, .slice a2 L2.length c2, .int .i64 X2]) z2 X2 from ⟨n2, a2, c2, L2, rfl, i2⟩).below hb1a)
  have HV2 := hide (((unhide HV).below hb1).below hb1a)
  have x1 := ((unhide X).all hb1).all hb1a
  have x2 := Box3.new w2 (.bool n2) (.slice a2 L2.length c2) (.int .i64 X2)
  have B2 := hide ((unhide B1).trans ((hb1.trans (hb1a.mono hb1.size)).mono (unhide B1).size))
  have y0 := x1.c0; have y1 := x1.c1; have y2 := x1.c2; have u0 := x2.c0; have u1 := x2.c1; have u2 := x2.c2
  clear i2 hb1 hb1a K2 B1 HV X x1 x2
  go_wp2_with fail
  refine (unhide K3 _ _ _ (unhide B2) (unhide HV2) (unhide HU)).mono ?_
  rintro e w3 ⟨⟨v, rfl, hv⟩, hb1⟩
  clear y0 y1 y2 u0 u1 u2
  obtain ⟨n3, a3, c3, L3, rfl, i3⟩ := hv
  have hb1a : Below w3.heap.size w3 (w3.alloc (.cells #[.bool n3, .slice a3 L3.length c3, .int .i64 X3] 53)) := (Below.refl _ _).alloc (Nat.le_refl _) _
  have HX := hide ((show IsDy w3 (.agg #[.bool n3, .slice a3 L3.length c3, .int .i64 X3]) 0 X3 from ⟨n3, a3, c3, L3, rfl, i3⟩).below hb1a)
  have hl := dy_len (unhide HX)
  rw [decide_eq_true rfl] at hl
  have B3 := hide ((unhide B2).trans ((hb1.trans (hb1a.mono hb1.size)).mono (unhide B2).size))
  have x3 := Box3.new w3 (.bool n3) (.slice a3 L3.length c3) (.int .i64 X3)
  have y0 := x3.c0; have y1 := x3.c1; have y2 := x3.c2
  clear i3 hb1 hb1a K3 B2 HV2 HU x3
  generalize L3.length = l3 at *
  go_wp2_with fail
  refine (unhide K4 _).mono ?_
  rintro e w4 ⟨rfl, hb1⟩
  have B4 := hide ((unhide B3).trans (hb1.mono (unhide B3).size))
  clear hb1 K4 B3
  go_wp2
  exact bodyPost_ret (v := .tuple #[.int .u64 o, .int .u8 0]) (by simp [results, Tryd.results37, go_sem]) rfl ⟨rfl, unhide B4⟩

set_option maxRecDepth 20000 in
set_option maxHeartbeats 4000000 in
theorem addFinite_n (a b : Nat) (z1 z2 z3 X1 X2 X3 fl : Int) (w : World) (o : Nat) (h0 : z3 ≠ 0)
    (C1 : ∀ w', Below w.heap.size w w' → Calls Tryd.prog 32 #[.int .u64 a] w' fun r w'' => DyR w'' r 0 z1 X1 ∧ Below w'.heap.size w' w'')
    (C2 : ∀ w', Below w.heap.size w w' → Calls Tryd.prog 32 #[.int .u64 b] w' fun r w'' => DyR w'' r 0 z2 X2 ∧ Below w'.heap.size w' w'')
    (C3 : ∀ w' v u, Below w.heap.size w w' → IsDy w' v z1 X1 → IsDy w' u z2 X2 → Calls Tryd.prog 52 #[v, u] w' fun r w'' => DyR w'' r 0 z3 X3 ∧ Below w'.heap.size w' w'')
    (C4 : ∀ w' v, Below w.heap.size w w' → IsDy w' v z3 X3 → Calls Tryd.prog 54 #[v] w' fun r w'' => r = .returned (.tuple #[.int .u64 (o : Nat), .int .u8 fl, .int .i64 0]) ∧ Below w'.heap.size w' w'') :
    Calls Tryd.prog 37 #[.int .u64 a, .int .u64 b] w fun r w' => r = .returned (.tuple #[.int .u64 (o : Nat), .int .u8 fl]) ∧ Below w.heap.size w w' := by
  have K1 := hide C1; have K2 := hide C2; have K3 := hide C3; have K4 := hide C4
  clear C1 C2 C3 C4
  go_enter Tryd.func37, Tryd.ntmps37
  go_wp2_with fail
  refine (unhide K1 _ (Below.refl _ _)).mono ?_
  rintro e w1 ⟨⟨v, rfl, hv⟩, hb1⟩
  obtain ⟨n1, a1, c1, L1, rfl, i1⟩ := hv
  have hb1a : Below w1.heap.size w1 (w1.alloc (.cells #[.bool n1, .slice a1 L1.length c1, .int .i64 X1] 53)) := (Below.refl _ _).alloc (Nat.le_refl _) _
  have HV := hide ((show IsDy w1 (.agg #[.bool n1, .slice a1 L1.length c1, .int .i64 X1]) z1 X1 from ⟨n1, a1, c1, L1, rfl, i1⟩).below hb1a)
  have X := hide (Box3.new w1 (.bool n1) (.slice a1 L1.length c1) (.int .i64 X1))
  have B1 := hide (hb1.trans (hb1a.mono hb1.size))
  clear i1 hb1 hb1a K1
  go_wp2_with fail
  refine (unhide K2 _ (unhide B1)).mono ?_
  rintro e w2 ⟨⟨v, rfl, hv⟩, hb1⟩
  obtain ⟨n2, a2, c2, L2, rfl, i2⟩ := hv
  have hb1a : Below w2.heap.size w2 (w2.alloc (.cells #[.bool n2, .slice a2 L2.length c2, .int .i64 X2] 53)) := (Below.refl _ _).alloc (Nat.le_refl _) _
  have HU := hide ((show IsDy w2 (.agg #[.bool n2, .slice a2 L2.length c2, .int .i64 X2]) z2 X2 from ⟨n2, a2, c2, L2, rfl, i2⟩).below hb1a)
  have HV2 := hide (((unhide HV).below hb1).below hb1a)
  have x1 := ((unhide X).all hb1).all hb1a
  have x2 := Box3.new w2 (.bool n2) (.slice a2 L2.length c2) (.int .i64 X2)
  have B2 := hide ((unhide B1).trans ((hb1.trans (hb1a.mono hb1.size)).mono (unhide B1).size))
  have y0 := x1.c0; have y1 := x1.c1; have y2 := x1.c2; have u0 := x2.c0; have u1 := x2.c1; have u2 := x2.c2
  clear i2 hb1 hb1a K2 B1 HV X x1 x2
  go_wp2_with fail
  refine (unhide K3 _ _ _ (unhide B2) (unhide HV2) (unhide HU)).mono ?_
  rintro e w3 ⟨⟨v, rfl, hv⟩, hb1⟩
  clear y0 y1 y2 u0 u1 u2
  obtain ⟨n3, a3, c3, L3, rfl, i3⟩ := hv
  have hb1a : Below w3.heap.size w3 (w3.alloc (.cells #[.bool n3, .slice a3 L3.length c3, .int .i64 X3] 53)) := (Below.refl _ _).alloc (Nat.le_refl _) _
  have HX := hide ((show IsDy w3 (.agg #[.bool n3, .slice a3 L3.length c3, .int .i64 X3]) z3 X3 from ⟨n3, a3, c3, L3, rfl, i3⟩).below hb1a)
  have hl := dy_len (unhide HX)
  rw [decide_eq_false h0] at hl
  have B3 := hide ((unhide B2).trans ((hb1.trans (hb1a.mono hb1.size)).mono (unhide B2).size))
  have x3 := Box3.new w3 (.bool n3) (.slice a3 L3.length c3) (.int .i64 X3)
  have y0 := x3.c0; have y1 := x3.c1; have y2 := x3.c2
  clear i3 hb1 hb1a K3 B2 HV2 HU x3
  generalize L3.length = l3 at *
  go_wp2_with fail
  refine (unhide K4 _ _ (unhide B3) (unhide HX)).mono ?_
  rintro e w4 ⟨rfl, hb1⟩
  have B4 := hide ((unhide B3).trans (hb1.mono (unhide B3).size))
  clear hb1 K4 B3
  go_wp2
  exact bodyPost_ret (v := .tuple #[.int .u64 o, .int .u8 fl]) (by simp [results, Tryd.results37, go_sem]) rfl ⟨rfl, unhide B4⟩

/-- Two finite numbers' sum. -/
theorem addFinite_any (a b : Nat) (w : World) (ha : a < 18446744073709551616) (hb : b < 18446744073709551616) (fa : fFin a = true) (fb : fFin b = true) (hT : Tab w) :
    Calls Tryd.prog 37 #[.int .u64 a, .int .u64 b] w fun r w' => r = .returned (.tuple #[.int .u64 (aV a b : Nat), .int .u8 (aF a b)]) ∧ Below w.heap.size w w' := by
  obtain ⟨a3, a4⟩ : fK a ≠ 3 ∧ fK a ≠ 4 := by
    rcases fK_cases a with ⟨h, _⟩ | ⟨_, h⟩
    · rw [fa] at h; cases h
    · omega
  obtain ⟨b3, b4⟩ : fK b ≠ 3 ∧ fK b ≠ 4 := by
    rcases fK_cases b with ⟨h, _⟩ | ⟨_, h⟩
    · rw [fb] at h; cases h
    · omega
  obtain ⟨d1, d2⟩ := fZ_level a ha fa
  obtain ⟨d3, d4⟩ := fZ_level b hb fb
  have l3 := aZ_Lvl a b fa fb
  have C1 : ∀ w', Below w.heap.size w w' → _ := fun w' h => value_some a w' ha fa (hT.all h)
  have C2 : ∀ w', Below w.heap.size w w' → _ := fun w' h => value_some b w' hb fb (hT.all h)
  have C3 : ∀ w' v u, Below w.heap.size w w' → IsDy w' v (fD a) (fX a) → IsDy w' u (fD b) (fX b) → _ := fun w' v u h hv hu =>
    addN (W := 2099) (lo := -1074) (z1 := fZ a) (z2 := fZ b) (by rw [d1, d2]; exact hv) (by rw [d3, d4]; exact hu) (fZ_Lvl a fa) (fZ_Lvl b fb) l3 (hT.all h)
  rw [(add_f a b a3 a4 b3 b4).1, (add_f a b a3 a4 b3 b4).2]
  by_cases h0 : aZ a b = 0
  · rw [if_pos h0, if_pos h0]
    have hz : fZ a + fZ b = 0 := h0
    rw [hz, oM_zero] at C3
    exact addFinite_z a b _ _ _ _ _ w _ C1 C2 C3 (fun w' => nought_any a b w' ha hb)
  · rw [if_neg h0, if_neg h0]
    have C4 : ∀ w' v, Below w.heap.size w w' → IsDy w' v (oM (aZ a b)) (oE (aZ a b) (-1074)) → _ := fun w' v h hv => round_dy hv l3.right.2 l3.right.1 (hT.all h)
    rw [(rnd_odd (aZ a b) (-1074)).1, oM_sign] at C4
    exact addFinite_n a b _ _ _ _ _ _ _ w _ (oM_ne _ h0).1 C1 C2 C3 C4

end Go.Proofs.YtlbggedahpnjgaaDoor

