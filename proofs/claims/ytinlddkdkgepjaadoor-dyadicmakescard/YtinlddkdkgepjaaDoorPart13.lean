/- DyadicMakes holds: for any whole number and any int Make answers the right dyadic number of the number times that power of two, as the document's own reckoning does, or ErrForm or ErrRange and 0; a right number of more than 30 limbs is not gone through (the law's own bound); under the condition that the library's table deBruijn32tab holds what its initialiser lays, which the card ties to the program's text (of this seat's pruned copy); nothing that was there is changed. -/
import Derived.Test.YtinlddkdkgepjaaDoorPart12
import Derived.Test.YtinlddkdkgepjaaDoorChecked
import Derived.Test.YtinlddkdkgepjaaDoorPart01
import Derived.ProofKit
import Derived.SizedLaws
import Derived.Lib.SmallJoins
import Derived.Test.YtinlddkdkgepjaaDoorRows
import Derived.Test.YtinlddkdkgepjaaDoorPart11
import Derived.Lib.LaidTab
import Derived.OpenShut
import Derived.Deep.DeepHandedRow
import Derived.Test.YtinlddkdkgepjaaDoorCards
import Derived.Test.YtinlddkdkgepjaaDoorTie
/- The law DyadicMakes, walked. -/
namespace Go.Proofs.YtinlddkdkgepjaaDoor
open Go.RowKit
attribute [local go_sem ↓] Go.wp_at_zero Go.wp_at_succ

set_option maxHeartbeats 2000000 in
/-- A number that is not right. -/
theorem dmakes_wrong (na : Bool) (ao : Option Addr) (ca : Nat) (A : List Nat) (x : Int) (w : World) (hA : LimbsAt w ao ca A) (la : A.length ≤ 35184372087808) (hT : Tab w) (hr : rightB na A = false) :
    Calls Tryd.prog 4 #[.agg #[.bool na, .slice ao A.length ca], .int .i64 x] w fun e w' => e = .returned (.bool true) ∧ Below w.heap.size w w' := by
  have CR := hide (fun w' h => right_any na ao ca A w' h (by omega))
  have CM := hide (fun w' h => make_wrong na ao ca A x w' h hr (by omega))
  rw [hr] at CR
  have hb0 : Below w.heap.size w (w.alloc (.cells #[.bool na, .slice ao A.length ca] 24)) := (Below.refl _ _).alloc (Nat.le_refl _) _
  have B0 := hide hb0
  clear hb0 hr
  rcases (show A.length ≤ 30 ∨ ¬ A.length ≤ 30 by omega) with h30 | h30
  · go_enter Tryd.func4, Tryd.ntmps4
    go_wp2_with fail
    have B1 := B0
    have X0 := hide (Box2.new w (.bool na) (.slice ao A.length ca))
    refine (unhide CM _ (hA.below (unhide B1))).mono ?_
    rintro e w1 ⟨rfl, hb1⟩
    have x0 := ((unhide X0).all hb1).old (.cells #[.bool false, .slice none 0 0, .int .i64 0] 26)
    have b2 := ((unhide B1).trans (hb1.mono (unhide B1).size)).alloc ((unhide B1).trans (hb1.mono (unhide B1).size)).size (.cells #[.bool false, .slice none 0 0, .int .i64 0] 26)
    have x1 := Box3.new w1 (.bool false) (.slice none 0 0) (.int .i64 0)
    have p0 := x0.c0; have p1 := x0.c1
    have X0 := hide x0; have B2 := hide b2; have X1 := hide x1
    clear hb1 x0 b2 x1
    go_wp2_with fail
    refine (unhide CR _ (hA.below (unhide B2))).mono ?_
    rintro e w2 ⟨rfl, hb1⟩
    have x1 := (unhide X1).all hb1
    have b3 := (unhide B2).trans (hb1.mono (unhide B2).size)
    have q0 := x1.c0; have q1 := x1.c1; have q2 := x1.c2
    have B3 := hide b3
    clear hb1 x1 b3
    go_wp2_with (first | (go_at_call 16; refine (told2_any (m := 0) (n := 0) (IsDy.zero _ none 0) (IsDy.zero _ none 0) TOP_pos (fun _ => ⟨rfl, rfl, rfl⟩) (fun h => absurd h (by decide)) (fun h => absurd h (by decide))).mono ?_; rintro e w3 ⟨rfl, hb1⟩; have B4 := hide ((unhide B3).trans (hb1.mono (unhide B3).size)); clear hb1) | (go_at_call 13; refine (awake2_any _ (hT.all (unhide B4))).mono ?_; rintro e w4 ⟨rfl, hb2⟩))
    go_ret
    exact ⟨rfl, (unhide B4).trans (hb2.mono (unhide B4).size)⟩
  · go_enter Tryd.func4, Tryd.ntmps4
    go_wp2_with fail
    refine (unhide CR _ (hA.below (unhide B0))).mono ?_
    rintro e w0 ⟨rfl, hb1⟩
    have x0 := (Box2.new w (.bool na) (.slice ao A.length ca)).all hb1
    have B1 := hide ((unhide B0).trans (hb1.mono (unhide B0).size))
    have p0 := x0.c0; have p1 := x0.c1
    have X0 := hide x0
    clear hb1 x0 B0
    go_wp2_with fail
    refine (unhide CM _ (hA.below (unhide B1))).mono ?_
    rintro e w1 ⟨rfl, hb1⟩
    have x0 := ((unhide X0).all hb1).old (.cells #[.bool false, .slice none 0 0, .int .i64 0] 26)
    have b2 := ((unhide B1).trans (hb1.mono (unhide B1).size)).alloc ((unhide B1).trans (hb1.mono (unhide B1).size)).size (.cells #[.bool false, .slice none 0 0, .int .i64 0] 26)
    have x1 := Box3.new w1 (.bool false) (.slice none 0 0) (.int .i64 0)
    have p0 := x0.c0; have p1 := x0.c1
    have X0 := hide x0; have B2 := hide b2; have X1 := hide x1
    clear hb1 x0 b2 x1
    go_wp2_with fail
    refine (unhide CR _ (hA.below (unhide B2))).mono ?_
    rintro e w2 ⟨rfl, hb1⟩
    have x1 := (unhide X1).all hb1
    have b3 := (unhide B2).trans (hb1.mono (unhide B2).size)
    have q0 := x1.c0; have q1 := x1.c1; have q2 := x1.c2
    have B3 := hide b3
    clear hb1 x1 b3
    go_wp2_with (first | (go_at_call 16; refine (told2_any (m := 0) (n := 0) (IsDy.zero _ none 0) (IsDy.zero _ none 0) TOP_pos (fun _ => ⟨rfl, rfl, rfl⟩) (fun h => absurd h (by decide)) (fun h => absurd h (by decide))).mono ?_; rintro e w3 ⟨rfl, hb1⟩; have B4 := hide ((unhide B3).trans (hb1.mono (unhide B3).size)); clear hb1) | (go_at_call 13; refine (awake2_any _ (hT.all (unhide B4))).mono ?_; rintro e w4 ⟨rfl, hb2⟩))
    go_ret
    exact ⟨rfl, (unhide B4).trans (hb2.mono (unhide B4).size)⟩

set_option maxHeartbeats 2000000 in
/-- A right number of more limbs than are gone through. -/
theorem dmakes_big (na : Bool) (ao : Option Addr) (ca : Nat) (A : List Nat) (x : Int) (w : World) (hA : LimbsAt w ao ca A) (la : A.length ≤ 35184372087808) (hT : Tab w) (hr : rightB na A = true) (h30 : ¬ A.length ≤ 30) :
    Calls Tryd.prog 4 #[.agg #[.bool na, .slice ao A.length ca], .int .i64 x] w fun e w' => e = .returned (.bool true) ∧ Below w.heap.size w w' := by
  have CR := hide (fun w' h => right_any na ao ca A w' h (by omega))
  rw [hr] at CR
  have hb0 : Below w.heap.size w (w.alloc (.cells #[.bool na, .slice ao A.length ca] 24)) := (Below.refl _ _).alloc (Nat.le_refl _) _
  have B0 := hide hb0
  clear hb0 hr
  go_enter Tryd.func4, Tryd.ntmps4
  go_wp2_with fail
  refine (unhide CR _ (hA.below (unhide B0))).mono ?_
  rintro e w0 ⟨rfl, hb1⟩
  have x0 := (Box2.new w (.bool na) (.slice ao A.length ca)).all hb1
  have B1 := hide ((unhide B0).trans (hb1.mono (unhide B0).size))
  have p0 := x0.c0; have p1 := x0.c1
  have X0 := hide x0
  clear hb1 x0 B0
  go_wp2_with (go_at_call 13; refine (awake2_any _ (hT.all (unhide B1))).mono ?_; rintro e w4 ⟨rfl, hb2⟩)
  go_ret
  exact ⟨rfl, (unhide B1).trans (hb2.mono (unhide B1).size)⟩

set_option maxHeartbeats 4000000 in
/-- A right number of few limbs. -/
theorem dmakes_few (na : Bool) (ao : Option Addr) (ca : Nat) (A : List Nat) (x : Int) (w : World) (hA : LimbsAt w ao ca A) (bx : -9223372036854775808 ≤ x ∧ x ≤ 9223372036854775807) (hT : Tab w) (hr : rightB na A = true) (h30 : A.length ≤ 30) :
    Calls Tryd.prog 4 #[.agg #[.bool na, .slice ao A.length ca], .int .i64 x] w fun e w' => e = .returned (.bool true) ∧ Below w.heap.size w w' := by
  have CR := hide (fun w' h => right_any na ao ca A w' h (by omega))
  have CM := hide (fun w' h t => make_right na ao ca A x w' h hr bx t)
  have hN := right_num hA hr (NewAt.zero hA)
  have hz : (sval na A).natAbs < TOP := by rw [natAbs_sval]; exact (val_lt_TOP A hA.2.1 (right_canon hr).2.1).2 (right_canon hr).1
  have CO := hide (fun w' (h : LimbsAt w' ao ca A) (hx : -32768 ≤ x ∧ x ≤ 32768) => rof_small (M := 512) x (show IsNumM 512 0 w' (.agg #[.bool na, .slice ao A.length ca]) (sval na A) from by
    obtain ⟨n1, a1, c1, L1, q1, q2⟩ := right_num h hr (NewAt.zero h)
    refine ⟨n1, a1, c1, L1, q1, q2.1, q2.2.1, q2.2.2.1, q2.2.2.2.1, q2.2.2.2.2.1, ?_⟩
    simp only [Value.agg.injEq, Array.mk.injEq, List.cons.injEq, Value.bool.injEq, Value.slice.injEq, and_true] at q1
    omega) (by decide) (by omega))
  have HTM := hide (fun hx => told_make (sval na A) x hx)
  have HFA := hide (fun hx => make_far (sval na A) x hx)
  have HTOP := hide (fun _ : Unit => show (oM (sval na A)).natAbs < TOP from Nat.lt_of_le_of_lt (oM_le _) hz)
  rw [hr] at CR
  have hb0 : Below w.heap.size w (w.alloc (.cells #[.bool na, .slice ao A.length ca] 24)) := (Below.refl _ _).alloc (Nat.le_refl _) _
  have B0 := hide hb0
  clear hb0 hr hN hz
  generalize dErr (sval na A) x = er at *
  generalize dM (sval na A) x = dm at *
  generalize dX (sval na A) x = dx at *
  generalize oM (sval na A) = om at *
  generalize oE (sval na A) x = oe at *
  by_cases hin : -32768 ≤ x ∧ x ≤ 32768
  case neg =>
    obtain ⟨rfl, rfl, rfl⟩ := unhide HFA hin
    clear HTM HFA CO HTOP
    rcases (show x < -32768 ∨ (¬ x < -32768 ∧ 32768 < x) by omega) with hx | ⟨hx, hx'⟩
    all_goals
      clear hin
      go_enter Tryd.func4, Tryd.ntmps4
      go_wp2_with fail
      have B1 := B0
      have X0 := hide (Box2.new w (.bool na) (.slice ao A.length ca))
      refine (unhide CM _ (hA.below (unhide B1)) (hT.all (unhide B1))).mono ?_
      rintro e w1 ⟨v, rfl, iv, hb1⟩
      obtain ⟨n2, a2, c2, L2, rfl, i2⟩ := iv.num
      have iv' := iv.below ((Below.refl _ _).alloc (Nat.le_refl _) (.cells #[.bool n2, .slice a2 L2.length c2, .int .i64 0] 26))
      have x0 := ((unhide X0).all hb1).old (.cells #[.bool n2, .slice a2 L2.length c2, .int .i64 0] 26)
      have b2 := ((unhide B1).trans (hb1.mono (unhide B1).size)).alloc ((unhide B1).trans (hb1.mono (unhide B1).size)).size (.cells #[.bool n2, .slice a2 L2.length c2, .int .i64 0] 26)
      have x1 := Box3.new w1 (.bool n2) (.slice a2 L2.length c2) (.int .i64 0)
      have p0 := x0.c0; have p1 := x0.c1
      have X0 := hide x0; have B2 := hide b2; have X1 := hide x1; have IV := hide iv'
      clear hb1 x0 b2 x1 iv iv' i2
      go_wp2_with fail
      refine (unhide CR _ (hA.below (unhide B2))).mono ?_
      rintro e w2 ⟨rfl, hb1⟩
      have x0 := (unhide X0).all hb1
      have x1 := (unhide X1).all hb1
      have b3 := (unhide B2).trans (hb1.mono (unhide B2).size)
      have iv := (unhide IV).below hb1
      clear X0 X1 IV p0 p1
      have q0 := x1.c0; have q1 := x1.c1; have q2 := x1.c2
      have B3 := hide b3; have IV := hide iv; have X0 := hide x0; have X1 := hide x1
      clear hb1 x0 x1 b3 iv
      go_wp2_with (first | (go_at_call 16; refine (told2_any (unhide IV) (IsDy.zero _ none 0) TOP_pos (fun _ => ⟨rfl, rfl, rfl⟩) (fun h => absurd h (by decide)) (fun h => absurd h (by decide))).mono ?_; rintro e w3 ⟨rfl, hb1⟩; have B4 := hide ((unhide B3).trans (hb1.mono (unhide B3).size)); clear hb1) | (go_at_call 13; refine (awake2_any _ (hT.all (unhide B4))).mono ?_; rintro e w4 ⟨rfl, hb2⟩))
      go_ret
      exact ⟨rfl, (unhide B4).trans (hb2.mono (unhide B4).size)⟩
  obtain ⟨ht1, ht2⟩ := unhide HTM hin
  have HT1 := hide ht1; have HT2 := hide ht2
  have CO' := hide (fun w' h => unhide CO w' h hin)
  have hx1 : ¬ x < -32768 := by omega
  have hx2 : ¬ 32768 < x := by omega
  clear ht1 ht2 HTM HFA CO hin
  have CO := CO'
  clear CO'
  go_enter Tryd.func4, Tryd.ntmps4
  go_wp2_with fail
  have B1 := B0
  have X0 := hide (Box2.new w (.bool na) (.slice ao A.length ca))
  refine (unhide CM _ (hA.below (unhide B1)) (hT.all (unhide B1))).mono ?_
  rintro e w1 ⟨v, rfl, iv, hb1⟩
  obtain ⟨n2, a2, c2, L2, rfl, i2⟩ := iv.num
  have iv' := iv.below ((Below.refl _ _).alloc (Nat.le_refl _) (.cells #[.bool n2, .slice a2 L2.length c2, .int .i64 dx] 26))
  have x0 := ((unhide X0).all hb1).old (.cells #[.bool n2, .slice a2 L2.length c2, .int .i64 dx] 26)
  have b2 := ((unhide B1).trans (hb1.mono (unhide B1).size)).alloc ((unhide B1).trans (hb1.mono (unhide B1).size)).size (.cells #[.bool n2, .slice a2 L2.length c2, .int .i64 dx] 26)
  have x1 := Box3.new w1 (.bool n2) (.slice a2 L2.length c2) (.int .i64 dx)
  have p0 := x0.c0; have p1 := x0.c1
  have X0 := hide x0; have B2 := hide b2; have X1 := hide x1; have IV := hide iv'
  clear hb1 x0 b2 x1 iv iv' i2
  go_wp2_with fail
  refine (unhide CR _ (hA.below (unhide B2))).mono ?_
  rintro e w2 ⟨rfl, hb1⟩
  have x0 := (unhide X0).all hb1
  have x1 := (unhide X1).all hb1
  have b3 := (unhide B2).trans (hb1.mono (unhide B2).size)
  have iv := (unhide IV).below hb1
  clear X0 X1 IV p0 p1
  have q0 := x1.c0; have q1 := x1.c1; have q2 := x1.c2
  have B3 := hide b3; have IV := hide iv; have X0 := hide x0; have X1 := hide x1
  clear hb1 x0 x1 b3 iv
  go_wp2_with fail
  refine at_world (fun W => Below w.heap.size w W ∧ Box2 W w.heap.size (.bool na) (.slice ao A.length ca) ∧ Box3 W w1.heap.size (.bool n2) (.slice a2 L2.length c2) (.int .i64 dx) ∧ IsDy W (.agg #[.bool n2, .slice a2 L2.length c2, .int .i64 dx]) dm dx) ⟨unhide B3, unhide X0, unhide X1, unhide IV⟩ ?_
  clear B3 X0 X1 IV q0 q1 q2
  rintro W0 ⟨b0, x0, x1, iv⟩
  have hK : ∀ w', Below W0.heap.size W0 w' → Below W0.heap.size W0 w' ∧ w'.cell? ⟨w.heap.size, 0, none⟩ = some (.bool na) ∧ w'.cell? ⟨w.heap.size, 1, none⟩ = some (.slice ao A.length ca) ∧ w'.cell? ⟨w1.heap.size, 0, none⟩ = some (.bool n2) ∧ w'.cell? ⟨w1.heap.size, 1, none⟩ = some (.slice a2 L2.length c2) ∧ w'.cell? ⟨w1.heap.size, 2, none⟩ = some (.int .i64 dx) := fun w' h =>
    ⟨h, (x0.all h).c0, (x0.all h).c1, (x1.all h).c0, (x1.all h).c1, (x1.all h).c2⟩
  have HK := hide hK
  have HA := hide (hA.below b0); have BB := hide b0; have HT := hide (hT.all b0); have IV := hide iv
  clear hK x0 x1 b0 iv
  go_region_held3 (fun w' => Below W0.heap.size W0 w' ∧ w'.cell? ⟨w.heap.size, 0, none⟩ = some (.bool na) ∧ w'.cell? ⟨w.heap.size, 1, none⟩ = some (.slice ao A.length ca) ∧ w'.cell? ⟨w1.heap.size, 0, none⟩ = some (.bool n2) ∧ w'.cell? ⟨w1.heap.size, 1, none⟩ = some (.slice a2 L2.length c2) ∧ w'.cell? ⟨w1.heap.size, 2, none⟩ = some (.int .i64 dx))
    (first | exact unhide HK _ (Below.refl _ _).drew | exact unhide HK _ (by assumption))
    (first | (go_at_call 17; refine (unhide CO _ ((unhide HA).below (And.left (by assumption)))).mono ?_; rintro e wn ⟨u, rfl, iu, hb1⟩; have hB : Below W0.heap.size W0 wn := Below.trans (And.left (by assumption)) (hb1.mono (Below.size (And.left (by assumption)))); have J := hide iu; clear hb1 iu) | (go_at_call 16; refine (told2_any ((unhide IV).below (And.left (by assumption))) (unhide J) (unhide HTOP ()) (fun h => absurd rfl h) (fun _ h => unhide HT1 h) (fun _ h => unhide HT2 h)).mono ?_; rintro e wn ⟨rfl, hb1⟩; have hB : Below W0.heap.size W0 wn := Below.trans (And.left (by assumption)) (hb1.mono (Below.size (And.left (by assumption)))); clear hb1) | (go_at_call 13; refine (awake2_any _ ((unhide HT).all (And.left (by assumption)))).mono ?_; rintro e wn ⟨rfl, hb1⟩; have hB : Below W0.heap.size W0 wn := Below.trans (And.left (by assumption)) (hb1.mono (Below.size (And.left (by assumption)))); clear hb1))
  go_wp2
  go_ret
  exact ⟨rfl, (unhide BB).trans (Below.mono (And.left (by assumption)) (unhide BB).size)⟩

theorem dmakes_walk (na : Bool) (ao : Option Addr) (ca : Nat) (A : List Nat) (x : Int) (w : World) (hA : LimbsAt w ao ca A) (la : A.length ≤ 35184372087808) (bx : -9223372036854775808 ≤ x ∧ x ≤ 9223372036854775807) (hT : Tab w) :
    Calls Tryd.prog 4 #[.agg #[.bool na, .slice ao A.length ca], .int .i64 x] w fun e w' => e = .returned (.bool true) ∧ Below w.heap.size w w' := by
  cases hr : rightB na A
  · exact dmakes_wrong na ao ca A x w hA la hT hr
  · by_cases h30 : A.length ≤ 30
    · exact dmakes_few na ao ca A x w hA bx hT hr h30
    · exact dmakes_big na ao ca A x w hA la hT hr h30

end Go.Proofs.YtinlddkdkgepjaaDoor

/- A struct of a sign and limbs that came in, opened. -/
namespace Go.Proofs.YtinlddkdkgepjaaDoor
open Go.ChangeShapes Go.WideShapes Go.ChangeAt Go.RowKit Go.Joins

theorem Tryd.own : ownKnob Tryd.prog.godebug = none := by kernel_rfl
theorem Tryd.laidOut : laidOutB Tryd.prog = true := by kernel_rfl
theorem Tryd.cellsW : Tryd.prog.cellsOf 24 = 2 := by kernel_rfl
theorem Tryd.cellsU : Tryd.prog.cellsOf 53 = 1 := by kernel_rfl
theorem Tryd.bytesU : Tryd.prog.bytesOf 53 = 4 := by kernel_rfl

theorem bounds_of_u32 {x : Int} (h : (Lit.int .u32 x).wf = true) : 0 ≤ x ∧ x < 4294967296 := by
  simp [Lit.wf, IntKind.min, IntKind.max, IntKind.signed, IntKind.bits] at h
  omega

theorem limbs_of_ints {W : World} {a : Addr} {len cap : Nat} {zs : List Int} (hl : len ≤ cap) (hz : zs.length = cap) (hc : ∀ i, i < zs.length → W.cell? (a.add i) = some (.int .u32 (zs.getD i 0))) (hw : ∀ n ∈ zs, (Lit.int .u32 n).wf = true) :
    LimbsAt W (some a) cap ((zs.take len).map Int.toNat) ∧ ((zs.take len).map Int.toNat).length = len := by
  have hlen : ((zs.take len).map Int.toNat).length = len := by simp; omega
  refine ⟨⟨by omega, ?_, ?_⟩, hlen⟩
  · intro x hx
    obtain ⟨y, hy, rfl⟩ := List.mem_map.1 hx
    have := bounds_of_u32 (hw y (List.mem_of_mem_take hy))
    omega
  · rcases Nat.eq_zero_or_pos len with rfl | hp
    · left; simp
    · right
      obtain ⟨b, off, spot⟩ := a
      have h0 := hc 0 (by omega)
      have hspot : spot = none := by simpa [Addr.add] using World.cell?_spot h0
      subst hspot
      have hb : b < W.heap.size := by
        have := World.block_lt_of_cell? W _ h0
        simpa [Addr.add] using this
      refine ⟨b, off, rfl, hb, fun i hi => ?_⟩
      have h1 := hc i (by omega)
      have h2 : (0 : Int) ≤ zs[i]'(by omega) := (bounds_of_u32 (hw _ (List.getElem_mem _))).1
      have h3 : (⟨b, off, none⟩ : Addr).add i = ⟨b, off + i, none⟩ := by simp [Addr.add]
      rw [h3] at h1
      rw [h1]
      have e : ((zs.take len).map Int.toNat)[i]?.getD 0 = (zs[i]'(by omega)).toNat := by
        rw [List.getElem?_map, List.getElem?_take, if_pos (by omega), List.getElem?_eq_getElem (by omega)]; rfl
      rw [e, List.getD_eq_getElem?_getD, List.getElem?_eq_getElem (by omega)]
      simp only [Option.getD_some, Option.some.injEq, Value.int.injEq, true_and]
      omega

/-- A number that came in: its sign, its limbs, where they lie; by the row's own reach they are not too many. -/
theorem open_whole {H : Type} {enc : TypeId × Value → H} {W : World} {base : Nat} {v : Value} {d : DataW H} {p : List MemPlace} (hval : Value.okWide Tryd.prog W .any base 24 v) (h : DataW.Trod enc Tryd.prog W 0 (fun _ => true) true 24 v d p)
    (hs : ∀ n ∈ d.weights Tryd.prog 24, n ≤ reachBytes) :
    ∃ neg ao cap L, v = .agg #[.bool neg, .slice ao L.length cap] ∧ LimbsAt W ao cap L ∧ L.length ≤ 35184372087808 := by
  obtain ⟨c0, c1, y0, y1, m, rfl, rfl, rfl, hy0, hy1⟩ := open_agg2 Tryd.underlying24 (by kernel_rfl) Tryd.cellsW hval h
  obtain ⟨neg, e0, rfl⟩ := DataW.trod_bool Tryd.underlying4 hy0
  simp at e0
  subst e0
  rcases open_ints Tryd.underlying22 Tryd.underlying53 Tryd.cellsU hy1 with ⟨hcs, _⟩ | ⟨a, len, cap, zs, hcs, _, hl, hm, hz, rfl, hcell, hwz⟩
  · simp at hcs
    subst hcs
    exact ⟨neg, none, 0, [], rfl, LimbsAt.nil _ _ _, by simp⟩
  · simp at hcs
    subst hcs
    obtain ⟨h1, h2⟩ := limbs_of_ints hl (by simpa using hz) hcell hwz
    refine ⟨neg, some a, cap, _, by rw [h2], h1, ?_⟩
    have hk := hs ((zs.length) * 4) (by
      simp only [DataW.weights, Tryd.underlying24, DataW.weightsEach, List.map, Tryd.underlying22, List.nil_append, List.append_nil, List.mem_cons, Tryd.bytesU, lits, List.length_map, List.length_take, List.length_drop]
      left
      omega)
    simp only [reachBytes] at hk
    rw [h2]
    have : zs.length = cap := by simpa using hz
    omega

end Go.Proofs.YtinlddkdkgepjaaDoor

/- The bounds of an int or int64 that came in. -/
namespace Go.Proofs.YtinlddkdkgepjaaDoor

theorem bounds_of_i64 {x : Int} (h : (Lit.int .i64 x).wf = true) : -9223372036854775808 ≤ x ∧ x ≤ 9223372036854775807 := by
  simp [Lit.wf, IntKind.min, IntKind.max, IntKind.signed, IntKind.bits] at h
  omega

end Go.Proofs.YtinlddkdkgepjaaDoor

/- A dyadic number that came in, opened; the library's table, as the row lays it. -/
namespace Go.Proofs.YtinlddkdkgepjaaDoor
open Go.ChangeShapes Go.WideShapes Go.ChangeAt Go.RowKit Go.Joins

theorem Tryd.cellsD : Tryd.prog.cellsOf 26 = 3 := by kernel_rfl
theorem Tryd.cellsI : Tryd.prog.cellsOf 3 = 1 := by kernel_rfl
theorem Tryd.cellsB : Tryd.prog.cellsOf 4 = 1 := by kernel_rfl
theorem Tryd.cellsS : Tryd.prog.cellsOf 22 = 1 := by kernel_rfl

theorem Tryd.tabName : Tryd.prog.globalNamed "math/bits.deBruijn32tab" = some 0 := by kernel_rfl
theorem Tryd.tabType : (Tryd.prog.globals[0]?).map (·.type) = some 79 := by kernel_rfl
theorem Tryd.tabCells : Tryd.prog.cellsOf 79 = 32 := by kernel_rfl
theorem Tryd.byteCells : Tryd.prog.cellsOf 5 = 1 := by kernel_rfl

theorem tab_getD : ∀ j, j < Lib.deBruijn32tab.length → (List.map Int.ofNat Lib.deBruijn32tab).getD j 0 = ((Lib.deBruijn32tab.getD j 0 : Nat) : Int) := by decide

/-- What the rows' list gives: the table's cells. -/
theorem tab_of_laid {W : World} (h : laidMetH Tryd.prog [("math/bits.deBruijn32tab", Rows.laid_math_bits_deBruijn32tab)] W) : Tab W := by
  have ht := Lib.tabIs_of_head (zs := Lib.deBruijn32tab.map Int.ofNat) (rest := []) Tryd.tabName Tryd.tabType Tryd.underlying79 Tryd.underlying5 Tryd.byteCells Tryd.tabCells h
  intro j hj
  have := ht.cell Tryd.tabName j (by simpa using hj)
  rw [this]
  congr 2
  exact tab_getD j hj

/-- A dyadic number that came in. -/
theorem open_dyadic {H : Type} {enc : TypeId × Value → H} {W : World} {base : Nat} {v : Value} {d : DataW H} {p : List MemPlace} (hval : Value.okWide Tryd.prog W .any base 26 v) (h : DataW.Trod enc Tryd.prog W 0 (fun _ => true) true 26 v d p)
    (hs : ∀ n ∈ d.weights Tryd.prog 26, n ≤ reachBytes) :
    ∃ (neg : Bool) (ao : Option Addr) (cap : Nat) (L : List Nat) (e : Int), v = .agg #[.bool neg, .slice ao L.length cap, .int .i64 e] ∧ LimbsAt W ao cap L ∧ L.length ≤ 35184372087808 ∧ (-9223372036854775808 ≤ e ∧ e ≤ 9223372036854775807) := by
  obtain ⟨cs, rfl, hsz⟩ := okWide_struct Tryd.underlying26 hval
  obtain ⟨c0, c1, c2, rfl⟩ := array3 (hsz.trans Tryd.cellsD)
  obtain ⟨fuel, hf⟩ := h
  obtain ⟨y0, y1, n, hx, _, h0, h1⟩ := trod_struct2 Tryd.underlying26 hf
  simp only [Prod.mk.injEq] at hx
  obtain ⟨rfl, rfl⟩ := hx
  have h0' : DataW.trod enc Tryd.prog W 0 (fun _ => true) true n 24 [c0, c1] = some y0 := by simpa [Value.cells, Tryd.cellsW] using h0
  have h1' : DataW.trod enc Tryd.prog W 0 (fun _ => true) true n 3 [c2] = some y1 := by simpa [Value.cells, Tryd.cellsI] using h1
  clear h0 h1
  obtain ⟨e, e1, e2, we⟩ := DataW.trod_int Tryd.underlying3 h1'
  simp at e1
  subst e1
  obtain ⟨z0, z1, m, hz, _, g0, g1⟩ := trod_struct2 Tryd.underlying24 h0'
  subst hz
  have g0' : DataW.trod enc Tryd.prog W 0 (fun _ => true) true m 4 [c0] = some z0 := by simpa [Tryd.cellsB] using g0
  have g1' : DataW.trod enc Tryd.prog W 0 (fun _ => true) true m 22 [c1] = some z1 := by simpa [Tryd.cellsS] using g1
  clear g0 g1
  obtain ⟨neg, e0, _⟩ := DataW.trod_bool Tryd.underlying4 g0'
  simp at e0
  subst e0
  have be := bounds_of_i64 we
  rcases open_ints Tryd.underlying22 Tryd.underlying53 Tryd.cellsU g1' with ⟨hcs, _⟩ | ⟨a, len, cap, zs, hcs, _, hl, hm, hzz, rfl, hcell, hwz⟩
  · simp at hcs
    subst hcs
    exact ⟨neg, none, 0, [], e, rfl, LimbsAt.nil _ _ _, by simp, be⟩
  · simp at hcs
    subst hcs
    obtain ⟨l1, l2⟩ := limbs_of_ints hl (by simpa using hzz) hcell hwz
    refine ⟨neg, some a, cap, _, e, by rw [l2], l1, ?_, be⟩
    have hk := hs ((zs.length) * 4) (by
      simp only [DataW.weights, Tryd.underlying26, Tryd.underlying24, DataW.weightsEach, List.map, Tryd.underlying22, List.append_nil, List.mem_cons, List.mem_append, Tryd.bytesU, lits, List.length_map, List.length_take, List.length_drop]
      refine .inl (.inr (.inl ?_))
      have : zs.length = cap := by simpa using hzz
      omega)
    simp only [reachBytes] at hk
    rw [l2]
    have : zs.length = cap := by simpa using hzz
    omega

end Go.Proofs.YtinlddkdkgepjaaDoor

namespace Go.Proofs.YtinlddkdkgepjaaDoor
open Go.ChangeShapes Go.WideShapes Go.ChangeAt Go.RowKit

set_option maxRecDepth 100000 in
theorem dyadicMakes_contract (H : Type) (enc : TypeId × Value → H) (W : World) (base : Nat) (args : Array Value) (ds gs : List (DataW H)) (before : List MemPlace)
    (hval : ∀ (j : Nat) t v, Tryd.f4.params[j]? = some t → args[j]? = some v → Value.okWide Tryd.prog W .any base t v)
    (hW : DataW.Whole enc Tryd.prog Tryd.f4.params.toList Rows.dyadicMakesSpec.vars false W args.toList ds gs before)
    (hsz0 : (DataW.weightsEach Tryd.prog (Tryd.f4.params.toList ++ (OpenSpec.ofChange Rows.dyadicMakesSpec).bare.plain.varTypes Tryd.prog) (ds ++ gs)).all (· ≤ reachBytes) = true) (hLd : laidMetH Tryd.prog Rows.dyadicMakesRow.laid W) :
    Calls Tryd.prog 4 args W fun e W' => ∃ v, e = .returned v ∧ Rows.dyadicMakesSpec.post enc Tryd.prog Tryd.f4 false true false false W args v W' := by
  have hT : Tab W := tab_of_laid hLd
  have hsz : (DataW.weightsEach Tryd.prog (Tryd.f4.params.toList ++ (OpenSpec.ofChange Rows.dyadicMakesSpec).bare.plain.varTypes Tryd.prog) (ds ++ gs)).all (· ≤ reachBytes) = true := hsz0
  have hW' := hW
  obtain ⟨p, q, hA0, hV, rfl, hfz, hnd⟩ := hW
  have hA : DataW.TrodAll enc Tryd.prog W 0 (fun _ => true) true Tryd.f4.params.toList args.toList ds p := hA0
  rw [Tryd.params4] at hA hval hsz
  obtain ⟨v0, vs0, d0, ds0, p0, q0, hargs, rfl, rfl, h0, r0⟩ := trodAll_cons hA
  obtain ⟨v1, vs1, d1, ds1, p1, q1, rfl, rfl, rfl, h1, r1⟩ := trodAll_cons r0
  obtain ⟨rfl, rfl, rfl⟩ := trodAll_nil r1
  obtain rfl : args = #[v0, v1] := by cases args; simp_all
  obtain ⟨rfl, rfl⟩ := trodVars_none hV
  have k0 := h0
  have lt0 : ∀ x ∈ p0, x.block < W.heap.size := by obtain ⟨m, hm⟩ := k0; exact DataW.trod_lt m _ _ _ hm
  obtain ⟨n0, a0, c0, L0, rfl, hL0, hl0⟩ := open_whole (hval 0 24 v0 rfl rfl) h0 (fun n hn => of_decide_eq_true (List.all_eq_true.1 hsz n (DataW.weights_mem_each (j := 0) rfl rfl n hn)))
  obtain ⟨x1, rfl, rfl, rfl, w1⟩ := open_int Tryd.underlying3 (hval 1 3 v1 rfl rfl) h1
  clear hA0
  refine (dmakes_walk n0 a0 c0 L0 x1 W hL0 (by omega) (bounds_of_i64 w1) hT).mono fun e W' ⟨he, bel⟩ => ?_
  subst he
  exact ⟨_, rfl, _, _, _, [], _, [], hW', trodAll_mk1 (shut_bool Tryd.underlying4 _), trodAll_cons_mk (Below.trod Tryd.laidOut (by kernel_rfl) (of_decide_eq_true (by kernel_rfl)) k0 bel lt0) (trodAll_cons_mk (shut_int Tryd.underlying3 w1) (trodAll_mk0)), rfl, bel.frame _, fun h => by cases h⟩

/-- A world for the witness: the table holds what its initialiser lays. -/
noncomputable def dyadicMakes_world (os : Os) : World :=
  { World.holding Tryd.prog os ⟨#[], #[], []⟩ with heap := (World.holding Tryd.prog os ⟨#[], #[], []⟩).heap.modify 0 fun
      | .cells _ t frozen => .cells (Lib.deBruijn32tab.map fun z : Nat => Value.int .u8 (z : Int)).toArray t frozen
      | o => o }
theorem dyadicMakes_met (os : Os) : laidMet Tryd.prog Rows.dyadicMakesRow.laid ((dyadicMakes_world os).forCall (fun _ _ => 0) ⟨#[], #[.agg #[.bool false, .slice none 0 0], .int .i64 0], []⟩).memory :=
  laidMet_of_run' 8 (by kernel_rfl) (by kernel_rfl)
theorem dyadicMakes_reads (os : Os) {H : Type} (enc : TypeId × Value → H) : ∃ places, DataW.whole enc Tryd.prog ((dyadicMakes_world os).forCall (fun _ _ => 0) ⟨#[], #[.agg #[.bool false, .slice none 0 0], .int .i64 0], []⟩).memory Tryd.f4.params.toList Rows.dyadicMakesSpec.vars false #[.agg #[.bool false, .slice none 0 0], .int .i64 0].toList 8 = some ([.agg [.lit (.bool false), .nil], .lit (.int .i64 0)], [], places) :=
  ⟨[], by kernel_rfl⟩

set_option maxRecDepth 100000 in
theorem dyadicMakes_lifted (os : Os) (started : os.Started) (H : Type) (enc : TypeId × Value → H) (F : Stop.Interp) :
    ReturnsInHanded {} Tryd.checked os 4 .any ((OpenSpec.ofChange Rows.dyadicMakesSpec).preRow enc Tryd.prog Tryd.f4 Rows.dyadicMakesRow.domain false Rows.dyadicMakesRow.laid) (((OpenSpec.ofChange Rows.dyadicMakesSpec).at F).post enc Tryd.prog Tryd.f4 false true false false) := by
  obtain ⟨places, hx⟩ := dyadicMakes_reads os enc
  refine returnsInHanded_of_row (C := Tryd.checked) (s := OpenSpec.ofChange Rows.dyadicMakesSpec) Tryd.own started (by kernel_rfl) Tryd.func4
    (witness_row_at (enc := enc) (C := Tryd.checked) false (dyadicMakes_world os) #[.agg #[.bool false, .slice none 0 0], .int .i64 0] rfl (by kernel_rfl) (by kernel_rfl) (by kernel_rfl)
      (OpenSpec.preRow_of_cond 8 hx (by kernel_rfl) (fun k hk => by cases hk) (by kernel_rfl) (dyadicMakes_met os))) ?_
  intro W base args ds gs before hval hW _ _ hsz hL _ _
  exact dyadicMakes_contract H enc W base args ds gs before hval hW hsz hL

theorem dyadicMakes_said : Rows.DyadicMakesSaid :=
  OpenClaim.holds_of_cond 4 Tryd.f4 rfl rfl rfl rfl rfl rfl rfl ⟨rfl, rfl, rfl, rfl, rfl⟩ rfl rfl rfl rfl rfl (by kernel_rfl) Tryd.func4 (by kernel_rfl)
    (of_decide_eq_true (by kernel_rfl)) (by unfold Func.isWrapper; first | (rw [if_pos (by decide +kernel)]; kernel_rfl) | (rw [if_neg (by decide +kernel)]; exact ⟨rfl, rfl⟩))
    (fun os started H enc _ F => by rw [OpenClaim.pre_eq_preRow]; exact dyadicMakes_lifted os started H enc F)

theorem dyadicMakes_plain (f : FuncId) (fn : Func) (hf : Tryd.pinned.checked.prog.funcNamed "dioptra/dioptralaw02.DyadicMakes" = some f) (hfn : Tryd.pinned.checked.prog.funcs[f]? = some fn) :
    false = Tryd.pinned.checked.prog.looks [] ∧ ∀ (j : Nat) t, fn.params[j]? = some t → Tryd.pinned.checked.prog.wantsStandIn t = false := by
  obtain rfl : f = 4 := Option.some.inj ((show Tryd.prog.funcNamed "dioptra/dioptralaw02.DyadicMakes" = some 4 by kernel_rfl).symm.trans hf) |>.symm
  obtain rfl : fn = Tryd.f4 := (Option.some.inj (Tryd.func4.symm.trans hfn)).symm
  refine ⟨by kernel_rfl, fun j t ht => ?_⟩
  rw [Tryd.params4] at ht
  have hm : t ∈ [24, 3] := by simpa using Array.mem_of_getElem? ht
  have hall : ([24, 3].all fun u => !Tryd.prog.wantsStandIn u) = true := by kernel_rfl
  exact (show Tryd.prog.wantsStandIn t = false by simpa using List.all_eq_true.1 hall t hm)

/-- The statement: the row, with the library's table tied to the program's text. -/
theorem dyadicMakes_card : Rows.DyadicMakesCardSaid :=
  Claim7.holds_tied_plain_at .later [] _ _ _ _ dyadicMakes_said (fun _ h => by cases h) (by kernel_rfl) (fun _ h => by cases h) dyadicMakes_row_tie rfl ⟨rfl, rfl⟩ (by kernel_rfl) rfl dyadicMakes_plain (by kernel_rfl)
#print axioms dyadicMakes_card

end Go.Proofs.YtinlddkdkgepjaaDoor

