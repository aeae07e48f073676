/- Part 31 of the texts. -/
import Derived.Test.YtfnnbkclnflpfaaGreatDoorPartN29
import Derived.Test.YtfnnbkclnflpfaaGreatDoorPartN30
import Derived.Test.YtfnnbkclnflpfaaGreatDoorPartN25
import Derived.Test.YtfnnbkclnflpfaaGreatDoorPartN07
import Derived.Deep.Cut
import Derived.Test.YtfnnbkclnflpfaaGreatDoorPartN20
import Derived.Test.YtfnnbkclnflpfaaGreatDoorPartN23
import Derived.Test.YtfnnbkclnflpfaaGreatDoorPartN24
import Derived.Test.YtfnnbkclnflpfaaGreatDoorPartN04
import Derived.Deep.CutRange
import Derived.Test.YtfnnbkclnflpfaaGreatDoorChecked
import Derived.Test.YtfnnbkclnflpfaaGreatDoorPartN03
import Derived.ProofKit
import Derived.SizedLaws
import Derived.Lib.SmallJoins
import Derived.Test.YtfnnbkclnflpfaaGreatDoorRows
import Derived.Test.YtfnnbkclnflpfaaGreatDoorPartN09
import Derived.Lib.LaidTab
import Derived.OpenShut
import Derived.Deep.DeepHandedRow
/- The reference of layer 11: Rank. -/
namespace Go.Proofs.YtfnnbkclnflpfaaGreatDoor
open Go.RowKit
attribute [local go_sem ↓] Go.wp_at_zero Go.wp_at_succ
/-- What holds in the reference's Rank: the matrix's box, the rows. -/
def RkO (w wr : World) (r c n cap : Nat) (ao : Option Addr) (v : Value) (M : List Rw) : Prop :=
  BoxM wr w.heap.size (.int .i64 r) (.int .i64 c) (.slice ao n cap) ∧ OwnRows (w.heap.size + 1) wr v M ∧ Clear wr v ∧ Below w.heap.size w wr
/-- Inside: a row, besides; all else lies below B. -/
def RkI (w : World) (B : Nat) (wr : World) (r c n cap : Nat) (ao : Option Addr) (v u : Value) (M : List Rw) (R : List Nm) : Prop :=
  RkO w wr r c n cap ao v M ∧ OwnNums B wr u R ∧ Clear wr u ∧ w.heap.size + 1 ≤ B ∧ B ≤ wr.heap.size ∧ (∀ m, v.ownBlock = some m → m < B) ∧ ∀ x ∈ M, x.R = [] ∨ ∃ b off, x.ao = some ⟨b, off, none⟩ ∧ b < B
theorem RkO.all {w wr w' : World} {r c n cap : Nat} {ao : Option Addr} {v : Value} {M : List Rw} (h : RkO w wr r c n cap ao v M) (hb : Below wr.heap.size wr w') : RkO w w' r c n cap ao v M :=
  ⟨h.1.all hb, h.2.1.below hb, h.2.2.1.below hb, h.2.2.2.trans (hb.mono h.2.2.2.size)⟩
theorem RkI.all {w : World} {B : Nat} {wr w' : World} {r c n cap : Nat} {ao : Option Addr} {v u : Value} {M : List Rw} {R : List Nm} (h : RkI w B wr r c n cap ao v u M R) (hb : Below wr.heap.size wr w') : RkI w B w' r c n cap ao v u M R :=
  ⟨h.1.all hb, h.2.1.below hb, h.2.2.1.below hb, h.2.2.2.1, Nat.le_trans h.2.2.2.2.1 hb.size, h.2.2.2.2.2⟩
theorem fin_mkM {r c : Nat} {f : Nat → Nat → Nat} (h : ∀ i k, fFin (f i k) = true) : ∀ x ∈ mkM r c f, fFin x = true := by
  intro x hx
  obtain ⟨p, hp, rfl⟩ := List.getElem_of_mem hx
  have hp' := hp
  rw [mkM_len] at hp'
  have := mkM_get r c f p hp'
  rw [List.getElem?_eq_getElem hp] at this
  injection this with e
  rw [e]
  exact h _ _

end Go.Proofs.YtfnnbkclnflpfaaGreatDoor

/- The law CertifyNoughts, walked. -/
namespace Go.Proofs.YtfnnbkclnflpfaaGreatDoor
open Go.RowKit
attribute [local go_sem ↓] Go.wp_at_zero Go.wp_at_succ

/-- A number from 0 on, at a level: no sign; no limb just if it is 0. -/
theorem lv_nonneg {w : World} {v : Value} {lo z : Int} (h : IsLv w v lo z) (hz : 0 ≤ z) : ∃ ao l cap, v = .agg #[.bool false, .slice ao l cap, .int .i64 (oE z lo)] ∧ (l = 0 ↔ z = 0) := by
  obtain ⟨neg, ao, cap, L, rfl, h1, h2, h3, h4, _⟩ := IsDy.parts h
  have hm : 0 ≤ oM z := by
    by_cases h0 : z = 0
    · rw [h0, oM_zero]; exact Int.le_refl _
    · have := (oM_neg_iff z).1
      omega
  have e : neg = false := by rw [h3]; exact decide_eq_false (by omega)
  subst e
  refine ⟨ao, L.length, cap, rfl, ?_⟩
  constructor
  · intro e
    have eL : L = [] := List.length_eq_zero_iff.1 e
    subst eL
    by_cases h0 : z = 0
    · exact h0
    · have := (oM_ne z h0).1
      have h5 : (oM z).natAbs = 0 := by rw [← h4]; rfl
      omega
  · intro e
    rw [e, oM_zero] at h4
    rw [(val_zero_of_canon L h2).1 h4]
    rfl

/-- The matrix's box, two numbers' boxes. -/
def NoSt (w wr : World) (r c : Int) (ao : Option Addr) (n cap : Nat) (g1 g2 : Nat) (a1 a2 : Option Addr) (l1 l2 c1 c2 : Nat) (E1 E2 lo z : Int) : Prop :=
  (BoxM wr w.heap.size (.int .i64 r) (.int .i64 c) (.slice ao n cap) ∧ Below w.heap.size w wr) ∧ (Box3 wr g1 (.bool false) (.slice a1 l1 c1) (.int .i64 E1) ∧ Box3 wr g2 (.bool false) (.slice a2 l2 c2) (.int .i64 E2)) ∧ IsLv wr (.agg #[.bool false, .slice a1 l1 c1, .int .i64 E1]) lo z ∧ IsLv wr (.agg #[.bool false, .slice a2 l2 c2, .int .i64 E2]) lo z
theorem NoSt.all {w wr w' : World} {r c : Int} {ao : Option Addr} {n cap g1 g2 : Nat} {a1 a2 : Option Addr} {l1 l2 c1 c2 : Nat} {E1 E2 lo z : Int} (h : NoSt w wr r c ao n cap g1 g2 a1 a2 l1 l2 c1 c2 E1 E2 lo z) (hb : Below wr.heap.size wr w') : NoSt w w' r c ao n cap g1 g2 a1 a2 l1 l2 c1 c2 E1 E2 lo z :=
  ⟨⟨h.1.1.all hb, h.1.2.trans (hb.mono h.1.2.size)⟩, ⟨h.2.1.1.all hb, h.2.1.2.all hb⟩, h.2.2.1.below hb, h.2.2.2.below hb⟩
theorem NoSt.lt {w wr : World} {r c : Int} {ao : Option Addr} {n cap g1 g2 : Nat} {a1 a2 : Option Addr} {l1 l2 c1 c2 : Nat} {E1 E2 lo z : Int} (h : NoSt w wr r c ao n cap g1 g2 a1 a2 l1 l2 c1 c2 E1 E2 lo z) : w.heap.size < wr.heap.size ∧ g1 < wr.heap.size ∧ g2 < wr.heap.size := ⟨h.1.1.lt, h.2.1.1.lt, h.2.1.2.lt⟩
/-- A younger number's box is written. -/
theorem NoSt.put {w wr : World} {r c : Int} {ao : Option Addr} {n cap g1 g2 : Nat} {a1 a2 : Option Addr} {l1 l2 c1 c2 : Nat} {E1 E2 lo z : Int} (h : NoSt w wr r c ao n cap g1 g2 a1 a2 l1 l2 c1 c2 E1 E2 lo z) {g : Nat} {x : Bool} {xa : Option Addr} {xl xc : Nat} {xe : Int} (hx : Box3 wr g (.bool x) (.slice xa xl xc) (.int .i64 xe)) (hg : w.heap.size < g ∧ g1 < g ∧ g2 < g) (b : Bool) (a : Option Addr) (l d : Nat) (X : Int) :
    NoSt w (((wr.setCell ⟨g, 0, none⟩ (.bool b)).setCell ⟨g, 1, none⟩ (.slice a l d)).setCell ⟨g, 2, none⟩ (.int .i64 X)) r c ao n cap g1 g2 a1 a2 l1 l2 c1 c2 E1 E2 lo z := by
  obtain ⟨⟨h1, h2⟩, ⟨h3, h4⟩, h5, h6⟩ := h
  have n0 : w.heap.size ≠ g := by omega
  have n1 : g1 ≠ g := by omega
  have n2 : g2 ≠ g := by omega
  exact ⟨⟨((h1.other (p := ⟨g, 0, none⟩) n0 _).other (p := ⟨g, 1, none⟩) n0 _).other (p := ⟨g, 2, none⟩) n0 _, below_put3 h2 (by omega) _ _ _⟩, ⟨h3.oth3 n1 _ _ _, h4.oth3 n2 _ _ _⟩, IsDy.put3 h5 hx _ _ _, IsDy.put3 h6 hx _ _ _⟩

set_option maxRecDepth 20000 in
set_option maxHeartbeats 4000000 in
theorem certifyNoughts_no (r c : Int) (ao : Option Addr) (n cap : Nat) (f : Int) (hf : f = 1 ∨ f = 4) (w : World)
    (C3 : ∀ w', Below w.heap.size w w' → Calls Tryz.prog 11 #[.agg #[.int .i64 r, .int .i64 c, .slice ao n cap]] w' fun e w'' => e = .returned (.int .i64 f) ∧ Below w'.heap.size w' w'')
    (CA : ∀ w', Below w.heap.size w w' → Calls Tryz.prog 14 #[] w' fun e w'' => e = .returned (.bool true) ∧ Below w'.heap.size w' w'') :
    Calls Tryz.prog 7 #[.agg #[.int .i64 r, .int .i64 c, .slice ao n cap]] w fun e w' => e = .returned (.bool true) ∧ Below w.heap.size w w' := by
  have K3 := hide C3; have KA := hide CA
  have BB := hide (below_alloc9 w (.cells #[.int .i64 r, .int .i64 c, .slice ao n cap] 24))
  clear C3 CA
  rcases hf with rfl | rfl
  all_goals
    go_enter Tryz.func7, Tryz.ntmps7
    go_wp2_with fail
    refine (unhide K3 _ (unhide BB)).mono ?_
    rintro e w1 ⟨rfl, hb1⟩
    replace BB := hide ((unhide BB).trans (hb1.mono (unhide BB).size))
    clear hb1 K3
    go_wp2_with fail
    refine (unhide KA _ (unhide BB)).mono ?_
    rintro e w7 ⟨rfl, hb1⟩
    replace BB := hide ((unhide BB).trans (hb1.mono (unhide BB).size))
    clear hb1 KA
    go_wp2
    go_ret
    exact ⟨rfl, unhide BB⟩

set_option maxRecDepth 20000 in
set_option maxHeartbeats 16000000 in
theorem certifyNoughts_of (r c : Int) (ao : Option Addr) (n cap lt le : Nat) (I : List Int) (T E : List Nat) (fk : Nat → Int) (zr : Nat → Bool) (lo z lo2 : Int) (w : World) (hI : BitsAt w ao cap I) (hn : I.length = n) (n36 : n ≤ 36) (z0 : zr 0 = true) (zs : ∀ k, zr (k + 1) = (zr k && decide (fk k = 0))) (hz : 0 ≤ z) (hzz : zr n = decide (z = 0))
    (C0 : ∀ w', Below w.heap.size w w' → Calls Tryz.prog 11 #[.agg #[.int .i64 r, .int .i64 c, .slice ao n cap]] w' fun e w'' => e = .returned (.int .i64 0) ∧ Below w'.heap.size w' w'')
    (CK : ∀ w' (k : Nat), k < n → Calls Tryz.prog 28 #[.int .u64 (atB I k : Nat)] w' fun e w'' => e = .returned (.int .i64 (fk k)) ∧ w' = w'')
    (C1 : ∀ w', Below w.heap.size w w' → Calls Tryz.prog 9 #[.agg #[.int .i64 r, .int .i64 c, .slice ao n cap]] w' fun e w'' => ∃ v, e = .returned (.tuple #[v, .int .i64 0]) ∧ IsLv w'' v lo z ∧ Below w'.heap.size w' w'')
    (C2 : ∀ w', Below w.heap.size w w' → Calls Tryz.prog 26 #[.agg #[.int .i64 r, .int .i64 c, .slice ao n cap]] w' fun e w'' => ∃ xo xd, e = .returned (.agg #[.int .i64 c, .int .i64 r, .slice xo lt xd]) ∧ BitsAt w'' xo xd (mxL T) ∧ Below w'.heap.size w' w'')
    (C3 : ∀ w' xo xd, Below w.heap.size w w' → BitsAt w' xo xd (mxL T) → Calls Tryz.prog 9 #[.agg #[.int .i64 c, .int .i64 r, .slice xo lt xd]] w' fun e w'' => ∃ v, e = .returned (.tuple #[v, .int .i64 0]) ∧ IsLv w'' v lo z ∧ Below w'.heap.size w' w'')
    (C4 : ∀ w', Calls Tryz.prog 29 #[.int .i64 c] w' fun e w'' => ∃ xo xd, e = .returned (.agg #[.int .i64 c, .int .i64 c, .slice xo le xd]) ∧ BitsAt w'' xo xd (mxL E) ∧ Below w'.heap.size w' w'')
    (C5 : ∀ w' xo xd, Below w.heap.size w w' → BitsAt w' xo xd (mxL E) → Calls Tryz.prog 17 #[.agg #[.int .i64 r, .int .i64 c, .slice ao n cap], .agg #[.int .i64 r, .int .i64 c, .slice ao n cap], .agg #[.int .i64 c, .int .i64 c, .slice xo le xd]] w' fun e w'' => ∃ v, e = .returned (.tuple #[v, .int .i64 0]) ∧ IsLv w'' v lo2 0 ∧ Below w'.heap.size w' w'')
    (CA : ∀ w', Below w.heap.size w w' → Calls Tryz.prog 14 #[] w' fun e w'' => e = .returned (.bool true) ∧ Below w'.heap.size w' w'') :
    Calls Tryz.prog 7 #[.agg #[.int .i64 r, .int .i64 c, .slice ao n cap]] w fun e w' => e = .returned (.bool true) ∧ Below w.heap.size w w' := by
  have K0 := hide C0; have KK := hide CK; have K1 := hide C1; have K2 := hide C2; have K3 := hide C3; have K4 := hide C4; have K5 := hide C5; have KA := hide CA
  have HI := hide hI; have HN := hide hn; have Z0 := hide z0; have ZS := hide zs; have HZ := hide hz; have ZZ := hide hzz
  have ST := hide (show BoxM _ w.heap.size (.int .i64 r) (.int .i64 c) (.slice ao n cap) ∧ Below w.heap.size w _ from ⟨BoxM.new w (.int .i64 r) (.int .i64 c) (.slice ao n cap), below_alloc9 w (.cells #[.int .i64 r, .int .i64 c, .slice ao n cap] 24)⟩)
  clear C0 CK C1 C2 C3 C4 C5 CA hI hn z0 zs hz hzz
  have y0 := (unhide ST).1.c0; have y1 := (unhide ST).1.c1; have y2 := (unhide ST).1.c2
  go_enter Tryz.func7, Tryz.ntmps7
  go_wp2_with fail
  refine (unhide K0 _ (unhide ST).2).mono ?_
  rintro e w1 ⟨rfl, hb1⟩
  replace ST := hide (show BoxM w1 w.heap.size (.int .i64 r) (.int .i64 c) (.slice ao n cap) ∧ Below w.heap.size w w1 from ⟨(unhide ST).1.all hb1, (unhide ST).2.trans (hb1.mono (unhide ST).2.size)⟩)
  clear hb1 K0 y0 y1 y2
  go_wp2_with fail
  go_loopw [3, 4] (fun a i wr => ∃ k : Nat, k ≤ n ∧ i = .int .i64 k ∧ a = .bool (zr k) ∧ Hid (BoxM wr w.heap.size (.int .i64 r) (.int .i64 c) (.slice ao n cap) ∧ Below w.heap.size w wr)) (fun _ i _ => n - (intOf i).toNat)
  case atStart => exact ⟨0, Nat.zero_le _, rfl, by rw [unhide Z0], ST⟩
  case round =>
    clear ST
    obtain ⟨k, hk, rfl, rfl, hS⟩ := hrel
    have y0 := (unhide hS).1.c0; have y1 := (unhide hS).1.c1; have y2 := (unhide hS).1.c2
    by_cases hlt : k < n
    · have hkI : (k : Int) < (n : Int) := by omega
      obtain ⟨b1, o1, rfl, p1, q1⟩ := (unhide HI).ne (by rw [unhide HN]; omega)
      have cx := (unhide hS).2.cell (p := ⟨b1, o1 + k, none⟩) p1
      rw [q1 k (by rw [unhide HN]; exact hlt)] at cx
      have W1 := hide (fun w' => unhide KK w' k hlt)
      have ZK := hide (unhide ZS k)
      generalize atB I k = x at *
      generalize fk k = f at *
      clear q1 p1
      cases hzk : zr k
      · rw [hzk] at ZK
        clear hzk W1 cx
        go_wp2_with fail
        go_round
        case rel => exact ⟨k + 1, by omega, by go_num, by rw [unhide ZK]; rfl, hS⟩
        case measure => simp [intOf]; omega
      · rw [hzk] at ZK
        clear hzk
        go_wp2_with fail
        refine (unhide W1 _).mono ?_
        rintro e w4 ⟨rfl, rfl⟩
        clear W1 cx
        go_wp2_with fail
        go_round
        case rel => exact ⟨k + 1, by omega, by go_num, by rw [unhide ZK, Bool.true_and]; exact congrArg Value.bool (by by_cases h : f = 0 <;> simp [h]), hS⟩
        case measure => simp [intOf]; omega
    · have hkk : k = n := by omega
      subst hkk
      clear KK ZS HN HI Z0
      have ZZ2 := hide (show zr k = decide (z = 0) from unhide ZZ)
      generalize zr k = zb at *
      clear ZZ
      go_wp2_with fail
      refine (unhide K1 _ (unhide hS).2).mono ?_
      rintro e w2 ⟨v, rfl, lv, hb1⟩
      obtain ⟨a1, l1, c1, rfl, hl1⟩ := lv_nonneg lv (unhide HZ)
      generalize oE z lo = E1 at *
      have ba := below_alloc9 w2 (.cells #[.bool false, .slice a1 l1 c1, .int .i64 E1] 29)
      have hbb := hb1.trans (ba.mono hb1.size)
      have X1 := hide (Box3.new w2 (.bool false) (.slice a1 l1 c1) (.int .i64 E1))
      have Q1 := hide (lv.below ba)
      have G1 := hide (Nat.lt_of_lt_of_le (unhide hS).1.lt hb1.size)
      have L1 := hide hl1
      replace hS := hide (show BoxM _ w.heap.size (.int .i64 r) (.int .i64 c) (.slice ao k cap) ∧ Below w.heap.size w _ from ⟨(unhide hS).1.all hbb, (unhide hS).2.trans (hbb.mono (unhide hS).2.size)⟩)
      clear hb1 ba hbb K1 y0 y1 y2 lv hl1
      have y0 := (unhide hS).1.c0; have y1 := (unhide hS).1.c1; have y2 := (unhide hS).1.c2
      go_wp2_with fail
      generalize w2.heap.size = g1 at *
      refine (unhide K2 _ (unhide hS).2).mono ?_
      rintro e w3 ⟨xo, xd, rfl, bx, hbb⟩
      replace hS := hide (show BoxM w3 w.heap.size (.int .i64 r) (.int .i64 c) (.slice ao k cap) ∧ Below w.heap.size w w3 from ⟨(unhide hS).1.all hbb, (unhide hS).2.trans (hbb.mono (unhide hS).2.size)⟩)
      replace X1 := hide ((unhide X1).all hbb); replace Q1 := hide ((unhide Q1).below hbb)
      have BX := hide bx
      clear hbb K2 y0 y1 y2 bx
      go_wp2_with fail
      refine (unhide K3 _ _ _ (unhide hS).2 (unhide BX)).mono ?_
      rintro e w4 ⟨v, rfl, lv, hb1⟩
      obtain ⟨a2, l2, c2, rfl, hl2⟩ := lv_nonneg lv (unhide HZ)
      generalize oE z lo = E2 at *
      have ba := below_alloc9 w4 (.cells #[.bool false, .slice a2 l2 c2, .int .i64 E2] 29)
      have hbb := hb1.trans (ba.mono hb1.size)
      have G2 := hide (Nat.lt_of_lt_of_le (unhide X1).lt hb1.size)
      have NS := hide (show NoSt w _ r c ao k cap g1 w4.heap.size a1 a2 l1 l2 c1 c2 E1 E2 lo z from ⟨⟨(unhide hS).1.all hbb, (unhide hS).2.trans (hbb.mono (unhide hS).2.size)⟩, ⟨(unhide X1).all hbb, Box3.new w4 (.bool false) (.slice a2 l2 c2) (.int .i64 E2)⟩, (unhide Q1).below hbb, lv.below ba⟩)
      clear hb1 ba hbb K3 lv hl2 X1 Q1 hS BX
      go_wp2_with fail
      generalize w4.heap.size = g2 at *
      refine at_world (fun W => NoSt w W r c ao k cap g1 g2 a1 a2 l1 l2 c1 c2 E1 E2 lo z) (unhide NS) ?_
      clear NS
      rintro W0 hS
      go_cut [9, 10] from 43 to 51 (fun p q wx => ∃ (g : Nat) (a : Option Addr) (cc : Nat), p = .pointer (some ⟨g, 0, none⟩) ∧ q = .int .i64 0 ∧ Hid (NoSt w wx r c ao k cap g1 g2 a1 a2 l1 l2 c1 c2 E1 E2 lo z ∧ Box3 wx g (.bool false) (.slice a 0 cc) (.int .i64 0)))
      case first =>
        have D0 := (Below.refl W0.heap.size W0).drew
        have HK := hide (show ∀ w' (h : Below W0.heap.size W0 w'), Below W0.heap.size W0 w' ∧ w'.cell? ⟨w.heap.size, 0, none⟩ = some (.int .i64 r) ∧ w'.cell? ⟨w.heap.size, 1, none⟩ = some (.int .i64 c) ∧ w'.cell? ⟨w.heap.size, 2, none⟩ = some (.slice ao k cap) from fun w' h => ⟨h, (hS.1.1.all h).c0, (hS.1.1.all h).c1, (hS.1.1.all h).c2⟩)
        have HKA := hide (fun wn o (h1 : Below W0.heap.size W0 wn) => unhide HK (wn.alloc o) (h1.alloc h1.size o))
        have HKS := hide (fun wn g u u' u'' (h1 : Below W0.heap.size W0 wn) (h4 : W0.heap.size ≤ g) => unhide HK (((wn.setCell ⟨g, 0, none⟩ u).setCell ⟨g, 1, none⟩ u').setCell ⟨g, 2, none⟩ u'') (below_put3 h1 h4 u u' u''))
        have BXA := hide (fun wm o (h1 : Below (W0.drew.alloc o).heap.size (W0.drew.alloc o) wm) => (show wm.heap[W0.heap.size]? = some o from (h1.block W0.heap.size (by simp)).trans (heap_alloc_new W0.drew o)))
        have BXC := hide (fun wm o (h1 : Below (W0.alloc o).drew.heap.size (W0.alloc o).drew wm) => (show wm.heap[W0.heap.size]? = some o from (h1.block W0.heap.size (by simp)).trans (heap_alloc_new W0 o)))
        have BXB := hide (fun (wn wm : World) o (h1 : Below (wn.alloc o).heap.size (wn.alloc o) wm) => (show wm.heap[wn.heap.size]? = some o from (h1.block wn.heap.size (by simp)).trans (heap_alloc_new wn o)))
        have BW := hide (fun w' (h : Below W0.heap.size W0 w') => hS.1.2.trans (h.mono hS.1.2.size))
        have SA := hide (fun w' (h : Below W0.heap.size W0 w') => hS.all h)
        have HG := hide hS.lt
        clear hS D0
        go_region_held3 (fun w' => Below W0.heap.size W0 w' ∧ w'.cell? ⟨w.heap.size, 0, none⟩ = some (.int .i64 r) ∧ w'.cell? ⟨w.heap.size, 1, none⟩ = some (.int .i64 c) ∧ w'.cell? ⟨w.heap.size, 2, none⟩ = some (.slice ao k cap))
          (first | assumption | exact unhide HK _ (Below.refl _ _).drew | exact unhide HK _ (by assumption) | exact unhide HKA _ _ (by assumption) | exact unhide HKA _ _ (And.left (by assumption)) | exact unhide HKS _ _ _ _ _ hBwm (by first | exact Nat.le_refl _ | exact Below.size (by assumption)) | fail "KK")
          (first
            | (go_at_call 29; refine (unhide K4 _).mono ?_; rintro e wa ⟨po, pd, rfl, qn, hb1⟩; have hBwa : Below W0.heap.size W0 wa := Below.trans (And.left (by assumption)) (hb1.mono (Below.size (And.left (by assumption)))); (first | (replace xb := Box3.all xb hb1) | ((with_reducible (have xb0 := unhide BXA _ _ hb1)); have xb : Box3 wa W0.heap.size (.bool false) (.slice none 0 0) (.int .i64 0) := xb0; clear xb0) | ((with_reducible (have xb0 := unhide BXC _ _ hb1)); have xb : Box3 wa W0.heap.size (.bool false) (.slice none 0 0) (.int .i64 0) := xb0; clear xb0) | ((with_reducible (have xb0 := unhide BXB _ _ _ hb1)); have xb : Box3 wa _ (.bool false) (.slice none 0 0) (.int .i64 0) := xb0; clear xb0) | skip); have QX := hide qn; clear qn hb1)
            | (go_at_call 17; refine (unhide K5 _ _ _ (unhide BW _ (And.left (by assumption))) (by first | with_reducible exact unhide QX | exact (unhide QX).below (below_alloc9 _ _))).mono ?_; rintro e wm ⟨v, rfl, lv, hb1⟩; have hBwm : Below W0.heap.size W0 wm := Below.trans (And.left (by assumption)) (hb1.mono (Below.size (And.left (by assumption)))); (first | (replace xb := Box3.all xb hb1) | ((with_reducible (have xb0 := unhide BXA _ _ hb1)); have xb : Box3 wm W0.heap.size (.bool false) (.slice none 0 0) (.int .i64 0) := xb0; clear xb0) | ((with_reducible (have xb0 := unhide BXC _ _ hb1)); have xb : Box3 wm W0.heap.size (.bool false) (.slice none 0 0) (.int .i64 0) := xb0; clear xb0) | ((with_reducible (have xb0 := unhide BXB _ _ _ hb1)); have xb : Box3 wm _ (.bool false) (.slice none 0 0) (.int .i64 0) := xb0; clear xb0) | skip); obtain ⟨a5, l5, c5, rfl, hl5⟩ := lv_nonneg lv (Int.le_refl 0); obtain rfl : l5 = 0 := hl5.2 rfl; rw [oE_zero]; (first | (have y0 := xb.c0; have y1 := xb.c1; have y2 := xb.c2; have f0 := xb.free 0; have f1 := xb.free 1; have f2 := xb.free 2) | skip); clear lv hl5 hb1)
            | fail "NO ARM")
        all_goals
          first
            | (have xq := xb; clear y0 y1 y2 f0 f1 f2; go_wp2_with fail; go_meet; case rel => exact ⟨_, _, _, rfl, rfl, hide ⟨(unhide SA _ hBwm).put xq (by first | exact unhide HG | exact ⟨Nat.lt_of_lt_of_le (unhide HG).1 (Below.size hBwa), Nat.lt_of_lt_of_le (unhide HG).2.1 (Below.size hBwa), Nat.lt_of_lt_of_le (unhide HG).2.2 (Below.size hBwa)⟩) _ _ _ _ _, xq.put _ _ _⟩⟩)
            | (go_wp2_with fail; go_meet; case rel => exact ⟨_, _, _, rfl, rfl, hide ⟨(unhide SA _ hBwm).all (below_alloc9 _ _), Box3.new _ _ _ _⟩⟩)
            | (trace_state; fail "NO WAY")
      case rest =>
        obtain ⟨g, a, cc, rfl, rfl, hD⟩ := hcut
        clear hS
        obtain ⟨hS, hx⟩ := unhide hD
        have NS := hide hS
        have X3 := hide hx
        clear hS hx hD
        have y0 := (unhide NS).2.1.1.c0; have y1 := (unhide NS).2.1.1.c1; have y2 := (unhide NS).2.1.1.c2
        have z0 := (unhide NS).2.1.2.c0; have z1 := (unhide NS).2.1.2.c1; have z2 := (unhide NS).2.1.2.c2
        have x0 := (unhide X3).c0; have x1 := (unhide X3).c1; have x2 := (unhide X3).c2
        cases hzb : zb
        · have hzn : ¬ z = 0 := fun e => by have := unhide ZZ2; rw [hzb, decide_eq_true e] at this; cases this
          have hl0 : l1 ≠ 0 := fun e => hzn ((unhide L1).1 e)
          have hlI : ¬ (l1 : Int) = 0 := by omega
          have hlb : ((l1 : Int) == 0) = false := by simp; omega
          subst hzb
          go_wp2_with fail
          refine (dsame_dy (unhide NS).2.2.1 (unhide NS).2.2.2).mono ?_
          rintro e w8 ⟨rfl, hbb⟩
          rw [decide_eq_true (show oE z lo = oE z lo ∧ oM z = oM z from ⟨rfl, rfl⟩)]
          replace NS := hide ((unhide NS).all hbb); replace X3 := hide ((unhide X3).all hbb)
          clear y0 y1 y2 z0 z1 z2 x0 x1 x2 hbb
          have y0 := (unhide NS).2.1.1.c0; have y1 := (unhide NS).2.1.1.c1; have y2 := (unhide NS).2.1.1.c2
          have x0 := (unhide X3).c0; have x1 := (unhide X3).c1; have x2 := (unhide X3).c2
          go_wp2_with fail
          refine (unhide KA _ (unhide NS).1.2).mono ?_
          rintro e w9 ⟨rfl, hbb⟩
          have BB := hide ((unhide NS).1.2.trans (hbb.mono (unhide NS).1.2.size))
          clear y0 y1 y2 x0 x1 x2 hbb NS X3 KA
          go_wp2
          go_ret
          exact ⟨rfl, unhide BB⟩
        · have hzn : z = 0 := by have := unhide ZZ2; rw [hzb] at this; exact of_decide_eq_true this.symm
          have hl0 : l1 = 0 := (unhide L1).2 hzn
          subst hl0
          subst hzb
          go_wp2_with fail
          refine (dsame_dy (unhide NS).2.2.1 (unhide NS).2.2.2).mono ?_
          rintro e w8 ⟨rfl, hbb⟩
          rw [decide_eq_true (show oE z lo = oE z lo ∧ oM z = oM z from ⟨rfl, rfl⟩)]
          replace NS := hide ((unhide NS).all hbb); replace X3 := hide ((unhide X3).all hbb)
          clear y0 y1 y2 z0 z1 z2 x0 x1 x2 hbb
          have y0 := (unhide NS).2.1.1.c0; have y1 := (unhide NS).2.1.1.c1; have y2 := (unhide NS).2.1.1.c2
          have x0 := (unhide X3).c0; have x1 := (unhide X3).c1; have x2 := (unhide X3).c2
          go_wp2_with fail
          refine (unhide KA _ (unhide NS).1.2).mono ?_
          rintro e w9 ⟨rfl, hbb⟩
          have BB := hide ((unhide NS).1.2.trans (hbb.mono (unhide NS).1.2.size))
          clear y0 y1 y2 x0 x1 x2 hbb NS X3 KA
          go_wp2
          go_ret
          exact ⟨rfl, unhide BB⟩

/-- Are the first k numbers all 0? -/
def zrK (I : List Int) : Nat → Bool
  | 0 => true
  | k + 1 => zrK I k && decide ((fK (atB I k) : Int) = 0)
theorem zrK_all (I : List Int) : ∀ n, zrK I n = true ↔ ∀ p, p < n → (fK (atB I p) : Int) = 0
  | 0 => ⟨fun _ p hp => by omega, fun _ => rfl⟩
  | n + 1 => by
    show (zrK I n && decide ((fK (atB I n) : Int) = 0)) = true ↔ _
    rw [Bool.and_eq_true, zrK_all I n, decide_eq_true_eq]
    constructor
    · rintro ⟨h1, h2⟩ p hp
      by_cases e : p < n
      · exact h1 p e
      · rw [show p = n by omega]; exact h2
    · intro h
      exact ⟨fun p hp => h p (by omega), h n (by omega)⟩

theorem zrK_sq (S : List Nat) : zrK (mxL S) S.length = decide (sqZ S = 0) := by
  have h : zrK (mxL S) S.length = true ↔ sqZ S = 0 := by
    rw [zrK_all, sqZ_nought]
    refine forall_congr' fun p => forall_congr' fun hp => ?_
    rw [mxL_at]
    constructor
    · intro e
      by_cases h0 : fZ (S.getD p 0) = 0
      · exact h0
      · exact absurd e (fZ_ne h0)
    · intro e
      by_cases h0 : fK (S.getD p 0) = 0
      · exact h0
      · exact absurd e (fZ_neg _ h0).1
  by_cases hz : sqZ S = 0
  · rw [decide_eq_true hz]; exact h.2 hz
  · rw [decide_eq_false hz]
    cases hb : zrK (mxL S) S.length
    · rfl
    · exact absurd (h.1 hb) hz

theorem certifyNoughts_walk (r c : Int) (ao : Option Addr) (cap : Nat) (I : List Int) (w : World) (hI : BitsAt w ao cap I) (hl : I.length ≤ 17592186043904) (_hr : -9223372036854775808 ≤ r ∧ r ≤ 9223372036854775807) (_hc : -9223372036854775808 ≤ c ∧ c ≤ 9223372036854775807) (hT : Tab w) :
    Calls Tryz.prog 7 #[.agg #[.int .i64 r, .int .i64 c, .slice ao I.length cap]] w fun e w' => e = .returned (.bool true) ∧ Below w.heap.size w w' := by
  have CA := fun w' (hb : Below w.heap.size w w') => awake11_any w' (hT.all hb)
  have C3 := fun w' (hb : Below w.heap.size w w') => r11check_any r c ao cap I w' (hI.below hb) (by omega)
  by_cases h0 : ckE r c I = 0
  · rw [h0] at C3
    obtain ⟨r, c, rfl, rfl, hM, hS, hf⟩ := Mx.asked hI h0
    have hlen : (natL I).length = I.length := natL_len I
    have h36 := hM.small
    have hzz := zrK_sq (natL I)
    rw [hS, hlen] at hzz
    refine certifyNoughts_of r c ao I.length cap (tuM r c (natL I)).length (eyM c).length I (tuM r c (natL I)) (eyM c) (fun k => fK (atB I k)) (zrK I) (-2148) (sqZ (natL I)) (-4296) w hI rfl (by omega) rfl (fun k => rfl) (sqZ_nonneg _) hzz C3 (fun w' k hk => ?_) (fun w' hb => ?_) (fun w' hb => ?_) (fun w' xo xd hb hx => ?_) (fun w' => ?_) (fun w' xo xd hb hx => ?_) CA
    · exact rkind_any _ w' (hI.lt k)
    · rw [← hlen]; exact cSquare_any r c cap ao (natL I) w' (hM.below hb) hf (hT.all hb)
    · rw [← hlen]
      refine (rturn_any r c cap ao (natL I) w' (hM.below hb)).mono ?_
      rintro e w'' ⟨v, rfl, ⟨xo, xd, rfl, _, hx⟩, hb2⟩
      exact ⟨xo, xd, rfl, hx, hb2⟩
    · have hX : Mx w' xo xd c r (tuM r c (natL I)) := ⟨hx, mkM_len _ _ _, hM.2.2.2, hM.2.2.1⟩
      have := cSquare_any c r xd xo (tuM r c (natL I)) w' hX (fin_mkM (fun i k => el_fin c (natL I) _ _ hf)) (hT.all hb)
      rw [sqZ_tu r c _ hM.2.1] at this
      exact this
    · refine (reye_any c w' hM.2.2.2).mono ?_
      rintro e w'' ⟨v, rfl, ⟨xo, xd, rfl, _, hx⟩, hb2⟩
      exact ⟨xo, xd, rfl, hx, hb2⟩
    · have hX : Mx w' xo xd c c (eyM c) := ⟨hx, mkM_len _ _ _, hM.2.2.2, hM.2.2.2⟩
      have := cRes_any r c c cap cap xd ao ao xo (natL I) (natL I) (eyM c) w' (hM.below hb) (hM.below hb) hX hf hf (eye_fin c) (hT.all hb)
      rw [rsQ_eye, hlen] at this
      exact this
  · have hf : ckE r c I = 1 ∨ ckE r c I = 4 := by rcases ckE_three r c I with h | h | h <;> omega
    exact certifyNoughts_no r c ao I.length cap (ckE r c I) hf w C3 CA

end Go.Proofs.YtfnnbkclnflpfaaGreatDoor

/- A struct of a sign and limbs that came in, opened. -/
namespace Go.Proofs.YtfnnbkclnflpfaaGreatDoor
open Go.ChangeShapes Go.WideShapes Go.ChangeAt Go.RowKit Go.Joins

theorem Tryz.own : ownKnob Tryz.prog.godebug = none := by kernel_rfl
theorem Tryz.laidOut : laidOutB Tryz.prog = true := by kernel_rfl
end Go.Proofs.YtfnnbkclnflpfaaGreatDoor

/- The bounds of an int or int64 that came in. -/
namespace Go.Proofs.YtfnnbkclnflpfaaGreatDoor

theorem bounds_of_i64 {x : Int} (h : (Lit.int .i64 x).wf = true) : -9223372036854775808 ≤ x ∧ x ≤ 9223372036854775807 := by
  simp [Lit.wf, IntKind.min, IntKind.max, IntKind.signed, IntKind.bits] at h
  omega

end Go.Proofs.YtfnnbkclnflpfaaGreatDoor

/- A dyadic number that came in, opened; the library's table, as the row lays it. -/
namespace Go.Proofs.YtfnnbkclnflpfaaGreatDoor
open Go.ChangeShapes Go.WideShapes Go.ChangeAt Go.RowKit Go.Joins
theorem Tryz.tabName : Tryz.prog.globalNamed "math/bits.deBruijn32tab" = some 1 := by kernel_rfl
theorem Tryz.tabType : (Tryz.prog.globals[1]?).map (·.type) = some 181 := by kernel_rfl
theorem Tryz.tabCells : Tryz.prog.cellsOf 181 = 32 := by kernel_rfl
theorem Tryz.byteCells : Tryz.prog.cellsOf 5 = 1 := by kernel_rfl

theorem tab_getD : ∀ j, j < Lib.deBruijn32tab.length → (List.map Int.ofNat Lib.deBruijn32tab).getD j 0 = ((Lib.deBruijn32tab.getD j 0 : Nat) : Int) := by decide

/-- What the rows' list gives: the table's cells. -/
theorem tab_of_laid {W : World} (h : laidMetH Tryz.prog [("math/bits.deBruijn32tab", Rows.laid_math_bits_deBruijn32tab)] W) : Tab W := by
  have ht := Lib.tabIs_of_head (zs := Lib.deBruijn32tab.map Int.ofNat) (rest := []) Tryz.tabName Tryz.tabType Tryz.underlying181 Tryz.underlying5 Tryz.byteCells Tryz.tabCells h
  intro j hj
  have := ht.cell Tryz.tabName j (by simpa using hj)
  rw [this]
  congr 2
  exact tab_getD j hj

end Go.Proofs.YtfnnbkclnflpfaaGreatDoor

