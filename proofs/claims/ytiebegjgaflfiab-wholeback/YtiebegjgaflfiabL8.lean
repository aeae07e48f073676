/- The law WholeBack, walked. Written by mkback.py. -/
import Derived.Test.YtiebegjgaflfiabL7
import Derived.Test.YtiebegjgaflfiabH3
import Derived.Test.YtiebegjgaflfiabWC
namespace Go.Proofs.Ytiebegjgaflfiab
open Go.RowKit

theorem sub_ok {B B' : Nat} {w : World} {v u : Value} {x y : Int} (hv : IsNum B w v x) (hu : IsNum B' w u y) (hx : x.natAbs < TOP) (hy : y.natAbs < TOP) (hz : (x - y).natAbs < TOP) :
    Calls Try.prog 11 #[v, u] w fun e w' => ∃ r, e = .returned (.tuple #[r, .int .i64 0]) ∧ IsNum 0 w' r (x - y) ∧ Below w.heap.size w w' := by
  obtain ⟨na, ao, ca, A, rfl, a1, a2, a3, a4⟩ := hv.right hx
  obtain ⟨nb, bo, cb, C, rfl, b1, b2, b3, b4⟩ := hu.right hy
  have := sub_any na nb ao bo ca cb A C w a1 b1 (by omega) (by omega)
  rw [a2, b2, a3, b3, Bool.and_self, opErr_true, opNum_true, errOf_small _ hz, numOf_small _ hz] at this
  exact this.mono fun e w' ⟨r, h1, h2, h3⟩ => ⟨r, h1, h2.mono (Nat.zero_le _), h3⟩

theorem sg_mul (neg : Bool) (v k : Nat) : sg neg (v * 2 ^ k) = sg neg v * 2 ^ k := by unfold sg; cases neg <;> simp [Int.neg_mul]

theorem shift_up_ok {B : Nat} {w : World} {v : Value} {x n : Int} (k : Nat) (hv : IsNum B w v x) (hx : x.natAbs < TOP) (hn : n = (k : Int)) (hk : k ≤ 2000) (hz : (x * 2 ^ k).natAbs < TOP) :
    Calls Try.prog 10 #[v, .int .i64 n] w fun e w' => ∃ r, e = .returned (.tuple #[r, .int .i64 0]) ∧ IsNum 0 w' r (x * 2 ^ k) ∧ Below w.heap.size w w' := by
  obtain ⟨na, ao, ca, A, rfl, a1, a2, a3, a4⟩ := hv.right hx
  have := shift_any na ao ca A n w a1 (by omega) (by omega)
  have hok : shOk na A n = true := by unfold shOk; rw [a2, decide_eq_true (by omega)]; rfl
  have hV : shV na A n = x * 2 ^ k := by
    unfold shV
    rw [if_pos (by omega), show n.toNat = k by omega, sg_mul, ← sval_sg, a3]
  rw [show shE na A n = 0 by unfold shE; rw [hok, if_pos rfl, hV, errOf_small _ hz], show shN na A n = x * 2 ^ k by unfold shN; rw [hok, if_pos rfl, hV, numOf_small _ hz]] at this
  exact this.mono fun e w' ⟨r, h1, h2, h3⟩ => ⟨r, h1, h2.mono (Nat.zero_le _), h3⟩

theorem sg_div (x : Int) (neg : Bool) (v k : Nat) (h : sg neg v = x * 2 ^ k) (hn : neg = true → 0 < v) : sg neg (v / 2 ^ k) = x := by
  have hp : (0 : Int) < 2 ^ k := Int.pow_pos (by decide)
  have hv : v = x.natAbs * 2 ^ k := by
    have h1 := congrArg Int.natAbs h
    rw [Int.natAbs_mul] at h1
    have e1 : (sg neg v).natAbs = v := by unfold sg; cases neg <;> simp
    have e2 : ((2 : Int) ^ k).natAbs = 2 ^ k := by rw [Int.natAbs_pow]; rfl
    rw [e1, e2] at h1
    exact h1
  rw [hv, Nat.mul_div_cancel _ (Nat.pow_pos (by decide))]
  unfold sg at h ⊢
  cases neg
  · simp only [Bool.false_eq_true, if_false] at h ⊢
    have : 0 ≤ x := by
      rcases Int.lt_or_le x 0 with hx | hx
      · have := Int.mul_neg_of_neg_of_pos hx hp
        omega
      · exact hx
    omega
  · simp only [if_true] at h ⊢
    have hv0 := hn rfl
    have : x ≤ 0 := by
      rcases Int.lt_or_le 0 x with hx | hx
      · have := Int.mul_pos hx hp
        omega
      · exact hx
    omega

theorem shift_dn_ok {B : Nat} {w : World} {v : Value} {x n : Int} (k : Nat) (hv : IsNum B w v (x * 2 ^ k)) (hx : (x * 2 ^ k).natAbs < TOP) (hn : n = -(k : Int)) (hk : k ≤ 2000) (hz : x.natAbs < TOP) :
    Calls Try.prog 10 #[v, .int .i64 n] w fun e w' => ∃ r, e = .returned (.tuple #[r, .int .i64 0]) ∧ IsNum 0 w' r x ∧ Below w.heap.size w w' := by
  obtain ⟨na, ao, ca, A, rfl, a1, a2, a3, a4⟩ := hv.right hx
  have := shift_any na ao ca A n w a1 (by omega) (by omega)
  have hok : shOk na A n = true := by unfold shOk; rw [a2, decide_eq_true (by omega)]; rfl
  have hV : shV na A n = x := by
    unfold shV
    by_cases h0 : 0 ≤ n
    · have k0 : k = 0 := by omega
      subst k0
      rw [if_pos h0, show n.toNat = 0 by omega]
      simp only [Nat.pow_zero, Nat.mul_one]
      rw [← sval_sg, a3]; simp
    · rw [if_neg h0, show (-n).toNat = k by omega]
      refine sg_div x na (val A) k (by rw [← sval_sg]; exact a3) ?_
      intro e
      have hc := right_canon a2
      rcases Nat.eq_zero_or_pos (val A) with e0 | e0
      · exact absurd ((val_zero_of_canon A hc.2.1).1 e0) (hc.2.2 e)
      · exact e0
  rw [show shE na A n = 0 by unfold shE; rw [hok, if_pos rfl, hV, errOf_small _ hz], show shN na A n = x by unfold shN; rw [hok, if_pos rfl, hV, numOf_small _ hz]] at this
  exact this.mono fun e w' ⟨r, h1, h2, h3⟩ => ⟨r, h1, h2.mono (Nat.zero_le _), h3⟩

def N64 : Nat := 64
theorem mod2000 (n : Int) : ∃ k : Nat, wrap64 ((IntKind.u64.wrap n).tmod 2000) = (k : Int) ∧ k ≤ 2000 := by
  have h0 : 0 ≤ IntKind.u64.wrap n := by
    simp only [IntKind.wrap, IntKind.signed, IntKind.bits]
    simp
    omega
  refine ⟨(IntKind.u64.wrap n % 2000).toNat, ?_, by omega⟩
  rw [Int.tmod_eq_emod_of_nonneg h0]
  unfold wrap64
  omega
theorem back_bounds (x1 x2 : Int) (k : Nat) (h1 : x1.natAbs < M40) (h2 : x2.natAbs < M40) (hk : k ≤ 2000) : x1.natAbs < TOP ∧ x2.natAbs < TOP ∧ (x1 - x2).natAbs < TOP ∧ (x1 - x2 + x2).natAbs < TOP ∧ (x1 * 2 ^ k).natAbs < TOP := by
  obtain ⟨t1, t2, t3⟩ := TOP_M40
  have e2 : ((2 : Int) ^ k).natAbs = 2 ^ k := by rw [Int.natAbs_pow]; rfl
  have e3 : (2 : Nat) ^ k ≤ 4294967296 ^ N64 := by
    have : (4294967296 : Nat) ^ N64 = 2 ^ (32 * N64) := by rw [Nat.pow_mul]
    rw [this]; exact Nat.pow_le_pow_right (by decide) (by unfold N64; omega)
  have e4 : M40 * 4294967296 ^ N64 ≤ TOP := by
    unfold M40 TOP
    rw [← Nat.pow_add]
    exact Nat.pow_le_pow_right (by decide) (by unfold N40 N64 TOPN; decide)
  have e5 : (x1 * 2 ^ k).natAbs < TOP := by
    rw [Int.natAbs_mul, e2]
    have h5 := Nat.mul_le_mul (Nat.le_of_lt h1) e3
    have h6 := Nat.mul_lt_mul_of_lt_of_le h1 e3 (Nat.pow_pos (by decide))
    exact Nat.lt_of_lt_of_le h6 e4
  clear e4 e3
  generalize M40 = m at *
  generalize TOP = tp at *
  refine ⟨by omega, by omega, by omega, by omega, e5⟩

set_option maxHeartbeats 4000000 in
set_option maxRecDepth 10000 in
theorem back_walk (na nb : Bool) (ao bo : Option Addr) (ca cb : Nat) (A B : List Nat) (n0 : Int) (w : World) (hA : LimbsAt w ao ca A) (hB : LimbsAt w bo cb B) (la : A.length ≤ 35184372087808) (lb : B.length ≤ 35184372087808) (_bn : -9223372036854775808 ≤ n0 ∧ n0 ≤ 9223372036854775807) :
    Calls Try.prog 4 #[.agg #[.bool na, .slice ao A.length ca], .agg #[.bool nb, .slice bo B.length cb], .int .i64 n0] w fun e w' => e = .returned (.bool true) ∧ Below w.heap.size w w' := by
  have F1 := hide (fun w' h1 h2 => form_any na nb ao bo ca cb A B w' h1 h2 (by omega) (by omega))
  have K1 := hide (show chk2 na A nb B = 1 ∨ (chk2 na A nb B = 0 ∧ rightB na A = true ∧ rightB nb B = true) by unfold chk2; cases rightB na A <;> cases rightB nb B <;> simp)
  generalize chk2 na A nb B = f1 at *
  obtain ⟨k, hk, hk2⟩ := mod2000 n0
  go_enter Try.func4, Try.ntmps4
  go_wp2_with fail
  rw [hk]
  clear hk
  have hb0 : Below w.heap.size w ((w.alloc (.cells #[.bool na, .slice ao A.length ca] 24)).alloc (.cells #[.bool nb, .slice bo B.length cb] 24)) := ((Below.refl _ _).alloc (Nat.le_refl _) _).alloc (by simp) _
  refine (unhide F1 _ (hA.below hb0) (hB.below hb0)).mono ?_
  rintro e w2 ⟨rfl, hb1⟩
  have xa : Box2 w2 w.heap.size (.bool na) (.slice ao A.length ca) := ((Box2.new _ _ _).old _).below hb1 (by simp; omega)
  have xb : Box2 w2 (w.heap.size + 1) (.bool nb) (.slice bo B.length cb) := by
    have := Box2.new (w.alloc (.cells #[.bool na, .slice ao A.length ca] 24)) (.bool nb) (.slice bo B.length cb)
    exact Box2.below (by simpa using this) hb1 (by simp)
  have b2 : Below w.heap.size w w2 := hb0.trans (hb1.mono (by simp; omega))
  clear hb0 hb1 F1
  rcases unhide K1 with k1 | ⟨k1, r1, r2⟩
  · subst k1
    clear K1 xa xb
    go_wp2_with (go_at_call 6; refine (awake_any _).mono ?_; rintro e w3 ⟨rfl, hb5⟩)
    go_ret
    exact ⟨rfl, b2.trans (hb5.mono b2.size)⟩
  subst k1
  have pa0 := xa.c0; have pa1 := xa.c1; have pb1 := xb.c1
  have R1 := hide r1; have R2 := hide r2
  clear K1 r1 r2
  by_cases lenA : A.length ≤ 40
  case neg =>
    have lenI : (40 : Int) < (A.length : Int) := by omega
    clear xa xb
    go_wp2_with (go_at_call 6; refine (awake_any _).mono ?_; rintro e w3 ⟨rfl, hb5⟩)
    go_ret
    exact ⟨rfl, b2.trans (hb5.mono b2.size)⟩
  have lenAI : ¬ (40 : Int) < (A.length : Int) := by omega
  by_cases lenB : B.length ≤ 40
  case neg =>
    have lenI : (40 : Int) < (B.length : Int) := by omega
    clear xa xb
    go_wp2_with (go_at_call 6; refine (awake_any _).mono ?_; rintro e w3 ⟨rfl, hb5⟩)
    go_ret
    exact ⟨rfl, b2.trans (hb5.mono b2.size)⟩
  have lenBI : ¬ (40 : Int) < (B.length : Int) := by omega
  have ia : IsNum 0 w2 (.agg #[.bool na, .slice ao A.length ca]) (sval na A) := right_num (hA.below b2) (unhide R1) (NewAt.zero hA)
  have ib : IsNum 0 w2 (.agg #[.bool nb, .slice bo B.length cb]) (sval nb B) := right_num (hB.below b2) (unhide R2) (NewAt.zero hB)
  obtain ⟨t1, t2, t3, t4, t5⟩ := back_bounds (sval na A) (sval nb B) k (sval_M40 na A hA.2.1 lenA) (sval_M40 nb B hB.2.1 lenB) hk2
  generalize sval na A = x1 at *
  generalize sval nb B = x2 at *
  have TA := hide (And.intro t1 (And.intro t2 (And.intro t3 (And.intro t4 t5))))
  have XA := hide xa; have XB := hide xb; have B2 := hide b2; have IA := hide ia; have IB := hide ib
  clear xa xb b2 ia ib t1 t2 t3 t4 t5 hA hB R1 R2
  have hs1 : w.heap.size + 1 < w2.heap.size := (unhide XB).lt
  have hs2 : w.heap.size < w2.heap.size := by omega
  go_wp2_with fail
  -- s
  refine (shift_up_ok k (unhide IA) (unhide TA).1 (by omega) hk2 (unhide TA).2.2.2.2).mono ?_
  rintro e w3 ⟨v, rfl, ⟨nns, ads, cps, LLs, rfl, i3⟩, hb1⟩
  have hb2 : Below w2.heap.size w2 w3 := hb1
  have xa' := (unhide XA).below hb2 (unhide XA).lt
  have ia' := (unhide IA).below hb2
  have xb' := (unhide XB).below hb2 (unhide XB).lt
  have ib' := (unhide IB).below hb2
  have is' : IsNum 0 w3 (.agg #[.bool nns, .slice ads LLs.length cps]) (x1 * 2 ^ k) := ⟨nns, ads, cps, LLs, rfl, i3⟩
  have b3 := (unhide B2).trans (hb2.mono (unhide B2).size)
  clear pa0 pa1 pb1 hb1 hb2 B2 i3 XA XB IA IB
  have XA := hide xa'; have IA := hide ia'
  have XB := hide xb'; have IB := hide ib'
  have IS := hide is'; have B3 := hide b3
  clear xa' ia' xb' ib' is' b3
  go_wp2_with fail
  -- t
  have hbx : Below w3.heap.size w3 (w3.alloc (.cells #[.bool nns, .slice ads LLs.length cps] 24)) := (Below.refl _ _).alloc (Nat.le_refl _) _
  refine (shift_dn_ok k ((unhide IS).below hbx) (unhide TA).2.2.2.2 (by omega) hk2 (unhide TA).1).mono ?_
  rintro e w4 ⟨v, rfl, ⟨nnt, adt, cpt, LLt, rfl, i4⟩, hb1⟩
  have hb2 : Below w3.heap.size w3 w4 := hbx.trans (hb1.mono (by simp))
  have xa' := (unhide XA).below hb2 (unhide XA).lt
  have ia' := (unhide IA).below hb2
  have xb' := (unhide XB).below hb2 (unhide XB).lt
  have ib' := (unhide IB).below hb2
  have xs' : Box2 w4 w3.heap.size (.bool nns) (.slice ads LLs.length cps) := (Box2.new _ _ _).below hb1 (by simp)
  have is' := (unhide IS).below hb2
  have it' : IsNum 0 w4 (.agg #[.bool nnt, .slice adt LLt.length cpt]) (x1) := ⟨nnt, adt, cpt, LLt, rfl, i4⟩
  have b4 := (unhide B3).trans (hb2.mono (unhide B3).size)
  clear  hb1 hb2 B3 i4 XA XB IA IB IS hbx
  have pa0 := xa'.c0; have pa1 := xa'.c1; have hza4 := xa'.lt
  have pb0 := xb'.c0; have pb1 := xb'.c1; have hzb4 := xb'.lt
  have XA := hide xa'; have IA := hide ia'
  have XB := hide xb'; have IB := hide ib'
  have XS := hide xs'; have IS := hide is'
  have IT := hide it'; have B4 := hide b4
  clear xa' ia' xb' ib' xs' is' it' b4
  go_wp2_with fail
  -- d
  have hbx : Below w4.heap.size w4 (w4.alloc (.cells #[.bool nnt, .slice adt LLt.length cpt] 24)) := (Below.refl _ _).alloc (Nat.le_refl _) _
  refine (sub_ok ((unhide IA).below hbx) ((unhide IB).below hbx) (unhide TA).1 (unhide TA).2.1 (unhide TA).2.2.1).mono ?_
  rintro e w5 ⟨v, rfl, ⟨nnd, add, cpd, LLd, rfl, i5⟩, hb1⟩
  have hb2 : Below w4.heap.size w4 w5 := hbx.trans (hb1.mono (by simp))
  have xa' := (unhide XA).below hb2 (unhide XA).lt
  have ia' := (unhide IA).below hb2
  have xb' := (unhide XB).below hb2 (unhide XB).lt
  have ib' := (unhide IB).below hb2
  have xs' := (unhide XS).below hb2 (unhide XS).lt
  have is' := (unhide IS).below hb2
  have xt' : Box2 w5 w4.heap.size (.bool nnt) (.slice adt LLt.length cpt) := (Box2.new _ _ _).below hb1 (by simp)
  have it' := (unhide IT).below hb2
  have id' : IsNum 0 w5 (.agg #[.bool nnd, .slice add LLd.length cpd]) (x1 - x2) := ⟨nnd, add, cpd, LLd, rfl, i5⟩
  have b5 := (unhide B4).trans (hb2.mono (unhide B4).size)
  clear pa0 pa1 pb0 pb1 hb1 hb2 B4 i5 XA XB XS IA IB IS IT hbx
  have pb0 := xb'.c0; have pb1 := xb'.c1; have hzb5 := xb'.lt
  have XA := hide xa'; have IA := hide ia'
  have XB := hide xb'; have IB := hide ib'
  have XS := hide xs'; have IS := hide is'
  have XT := hide xt'; have IT := hide it'
  have ID := hide id'; have B5 := hide b5
  clear xa' ia' xb' ib' xs' is' xt' it' id' b5
  go_wp2_with fail
  -- u
  have hbx : Below w5.heap.size w5 (w5.alloc (.cells #[.bool nnd, .slice add LLd.length cpd] 24)) := (Below.refl _ _).alloc (Nat.le_refl _) _
  refine (add_ok ((unhide ID).below hbx) ((unhide IB).below hbx) (unhide TA).2.2.1 (unhide TA).2.1 (unhide TA).2.2.2.1).mono ?_
  rintro e w6 ⟨v, rfl, ⟨nnu, adu, cpu, LLu, rfl, i6⟩, hb1⟩
  have hb2 : Below w5.heap.size w5 w6 := hbx.trans (hb1.mono (by simp))
  have xa' := (unhide XA).below hb2 (unhide XA).lt
  have ia' := (unhide IA).below hb2
  have xb' := (unhide XB).below hb2 (unhide XB).lt
  have ib' := (unhide IB).below hb2
  have xs' := (unhide XS).below hb2 (unhide XS).lt
  have is' := (unhide IS).below hb2
  have xt' := (unhide XT).below hb2 (unhide XT).lt
  have it' := (unhide IT).below hb2
  have xd' : Box2 w6 w5.heap.size (.bool nnd) (.slice add LLd.length cpd) := (Box2.new _ _ _).below hb1 (by simp)
  have id' := (unhide ID).below hb2
  have iu' : IsNum 0 w6 (.agg #[.bool nnu, .slice adu LLu.length cpu]) (x1 - x2 + x2) := ⟨nnu, adu, cpu, LLu, rfl, i6⟩
  have b6 := (unhide B5).trans (hb2.mono (unhide B5).size)
  clear pb0 pb1 hb1 hb2 B5 i6 XA XB XS XT IA IB IS IT ID hbx
  have pt0 := xt'.c0; have pt1 := xt'.c1; have hzt6 := xt'.lt
  have pa0 := xa'.c0; have pa1 := xa'.c1; have hza6 := xa'.lt
  have XA := hide xa'; have IA := hide ia'
  have XB := hide xb'; have IB := hide ib'
  have XS := hide xs'; have IS := hide is'
  have XT := hide xt'; have IT := hide it'
  have XD := hide xd'; have ID := hide id'
  have IU := hide iu'; have B6 := hide b6
  clear xa' ia' xb' ib' xs' is' xt' it' xd' id' iu' b6
  go_wp2_with fail
  -- Same(t, a)
  have hbx : Below w6.heap.size w6 (w6.alloc (.cells #[.bool nnu, .slice adu LLu.length cpu] 24)) := (Below.refl _ _).alloc (Nat.le_refl _) _
  refine (same_yes ((unhide IT).below hbx) ((unhide IA).below hbx) (rfl)).mono ?_
  rintro e w7 ⟨rfl, hb1⟩
  have hb2 : Below w6.heap.size w6 w7 := hbx.trans (hb1.mono (by simp))
  have xu' : Box2 w7 w6.heap.size (.bool nnu) (.slice adu LLu.length cpu) := (Box2.new _ _ _).below hb1 (by simp)
  have iu' := (unhide IU).below hb2
  have xa' := (unhide XA).below hb2 (unhide XA).lt
  have ia' := (unhide IA).below hb2
  have b7 := (unhide B6).trans (hb2.mono (unhide B6).size)
  clear pt0 pt1 pa0 pa1 hb1 hb2 B6 XA XB XS XT XD IA IB IS IT ID IU hbx
  have pu0 := xu'.c0; have pu1 := xu'.c1; have hzu7 := xu'.lt
  have pa0 := xa'.c0; have pa1 := xa'.c1; have hza7 := xa'.lt
  have XU := hide xu'; have IU := hide iu'
  have XA := hide xa'; have IA := hide ia'
  have B7 := hide b7
  clear xu' iu' xa' ia' b7
  go_wp2_with fail
  -- Same(u, a)
  refine (same_yes (unhide IU) (unhide IA) (by omega)).mono ?_
  rintro e w8 ⟨rfl, hb1⟩
  have hb2 : Below w7.heap.size w7 w8 := hb1
  have b8 := (unhide B7).trans (hb2.mono (unhide B7).size)
  clear pu0 pu1 pa0 pa1 hb1 hb2 B7 XU XA IU IA
  have B8 := hide b8
  clear  b8
  go_wp2_with (go_at_call 6; refine (awake_any _).mono ?_; rintro e w99 ⟨rfl, hb5⟩)
  go_ret
  exact ⟨rfl, (unhide B8).trans (hb5.mono (unhide B8).size)⟩

end Go.Proofs.Ytiebegjgaflfiab
