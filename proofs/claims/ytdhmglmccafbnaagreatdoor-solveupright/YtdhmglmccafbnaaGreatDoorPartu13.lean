/- Part 13 of the texts. -/
import Derived.Test.YtdhmglmccafbnaaGreatDoorPartu12
import Derived.Deep.Cut
import Derived.Test.YtdhmglmccafbnaaGreatDoorPartu11
import Ieee.Arith
set_option maxHeartbeats 4000000
namespace Go.Proofs.YtdhmglmccafbnaaGreatDoor
open Go.RowKit
theorem pN_lt (v:Nat) (E:Int) (h:v ≠ 0):pN v (E - lastE v E) < 1152921504606846976:=by
 obtain ⟨l1,l2,l3⟩:=lastE_ge v E
 obtain ⟨a1,a2,a3⟩:=bl_spec v h
 generalize lastE v E = l at *
 have h54:(2:Nat) ^ 54 < 1152921504606846976:=by decide
 unfold pN
 split
 ·obtain ⟨k,hk⟩:=Int.eq_ofNat_of_zero_le (show 0≤E - l+1 by omega)
  rw [hk,Int.toNat_natCast]
  have h1:v * 2 ^ k < 2 ^ bl v * 2 ^ k:=Nat.mul_lt_mul_of_pos_right a3 (Nat.two_pow_pos _)
  rw [← Nat.pow_add] at h1
  have h2:(2:Nat) ^ (bl v+k)≤2 ^ 54:=pow_le2 (by omega)
  omega
 ·obtain ⟨k,hk⟩:=Int.eq_ofNat_of_zero_le (show 0≤-(E - l+1) by omega)
  rw [hk,Int.toNat_natCast]
  have h1:v < 2 ^ 54 * 2 ^ k:=by
   rw [← Nat.pow_add]
   exact Nat.lt_of_lt_of_le a3 (pow_le2 (by omega))
  have h2:v / 2 ^ k < 2 ^ 54:=Nat.div_lt_of_lt_mul (by rw [Nat.mul_comm];exact h1)
  omega
theorem max2_run (P:Program) (w:World) (ts:Array TypeId) (t:TypeId) (x y:Int):(Builtin.max_ ts t #[.int .i64 x,.int .i64 y]).run P w = .ok (.int .i64 (max x y)) w:=by
 rw [run_max_int2]
 congr 2
 split <;> omega
theorem roundSize_e (na:Bool) (ao:Option Addr) (ca l M k R:Nat) (E t last:Int) (w:World) (h0:0 < l) (ht:-100000≤t∧t≤1024) (hl:max (t - 53) (-1074) = last) (hk:last+1074 = k) (hk2:k≤2045) (hM:M≤9007199254740992)
  (CT:∀ w',Below w.heap.size w w'→Calls Tryz.prog 208 #[.agg #[.bool na,.slice ao l ca,.int .i64 E]] w' fun e w''=>e = .returned (.int .i64 t)∧Below w'.heap.size w' w'')
  (CR:∀ w',Below w.heap.size w w'→Calls Tryz.prog 294 #[.agg #[.bool na,.slice ao l ca,.int .i64 E],.int .i64 last] w' fun e w''=>e = .returned (.int .u64 M)∧Below w'.heap.size w' w'')
  (hR:R = M+k * 4503599627370496) (g1:decide (last≤E) = true) :
  Calls Tryz.prog 276 #[.agg #[.bool na,.slice ao l ca,.int .i64 E]] w fun e w'=>e = .returned (.tuple #[.int .u64 R,.int .u8 0])∧Below w.heap.size w w':=by
 have h0':decide (0 < l) = true:=decide_eq_true h0
 have hz:((l:Int) == 0) = false:=by simp;omega
 have hm:=fun W ts t'=>max2_run Tryz.prog W ts t' (t - 53) (-1074)
 rw [hl] at hm
 have KT:=hide CT;have KR:=hide CR
 have hg:decide ((1024:Int) < t) = false:=decide_eq_false (by omega)
 have w1:IntKind.i64.wrap (t - 53) = t - 53:=by simp only [IntKind.wrap_i64];omega
 have w2:IntKind.i64.wrap (last - -1074) = (k:Int):=by simp only [IntKind.wrap_i64];omega
 have w3:IntKind.u64.wrap (k:Int) = (k:Int):=by simp only [IntKind.wrap_u64];omega
 have HRR:=hide (show (M:Int)+(k:Int) * 4503599627370496 = (R:Int) by omega)
 clear CT CR hl hR
 have B0:=hide ((Below.refl w.heap.size w).alloc (Nat.le_refl _) (.cells #[.bool na,.slice ao l ca,.int .i64 E] 41))
 have X0:=hide (Box3.new w (.bool na) (.slice ao l ca) (.int .i64 E))
 go_enter Tryz.func276,Tryz.ntmps276
 go_wp2_with fail
 refine (uH KT _ (uH B0)).mono ?_
 rintro e w1' ⟨rfl,hb1⟩
 have x1:=(uH X0).all hb1
 have B1:=hide ((uH B0).trans (hb1.mono (uH B0).size))
 have X1:=hide x1
 have y0:=x1.c0;have y1:=x1.c1;have y2:=x1.c2
 clear hb1 x1 KT B0 X0
 go_wp2_with fail
 refine (uH KR _ (uH B1)).mono ?_
 rintro e w2' ⟨rfl,hb2⟩
 have x2:=(uH X1).all hb2
 have B2:=hide ((uH B1).trans (hb2.mono (uH B1).size))
 clear y0 y1 y2
 have y0:=x2.c0;have y1:=x2.c1;have y2:=x2.c2
 clear hb2 x2 KR B1 X1
 go_upto_region 8 with (fail)
 rw [uH HRR]
 clear hm w1 w2 w3 hk hk2 hM HRR h0 h0' hz hg ht
 go_wp2
 exact bodyPost_ret (v:=.tuple #[.int .u64 R,.int .u8 0]) (by simp [results,Tryz.results276,go_sem]) rfl ⟨rfl,uH B2⟩
theorem roundSize_i (na:Bool) (ao:Option Addr) (ca l M k R:Nat) (E t last:Int) (w:World) (h0:0 < l) (ht:-100000≤t∧t≤1024) (hl:max (t - 53) (-1074) = last) (hk:last+1074 = k) (hk2:k≤2045) (hM:M≤9007199254740992)
  (CT:∀ w',Below w.heap.size w w'→Calls Tryz.prog 208 #[.agg #[.bool na,.slice ao l ca,.int .i64 E]] w' fun e w''=>e = .returned (.int .i64 t)∧Below w'.heap.size w' w'')
  (CR:∀ w',Below w.heap.size w w'→Calls Tryz.prog 294 #[.agg #[.bool na,.slice ao l ca,.int .i64 E],.int .i64 last] w' fun e w''=>e = .returned (.int .u64 M)∧Below w'.heap.size w' w'')
  (hR:R = M+k * 4503599627370496) (g1:decide (last≤E) = false) (g2:((R:Int) == 9218868437227405312) = true) :
  Calls Tryz.prog 276 #[.agg #[.bool na,.slice ao l ca,.int .i64 E]] w fun e w'=>e = .returned (.tuple #[.int .u64 R,.int .u8 5])∧Below w.heap.size w w':=by
 have h0':decide (0 < l) = true:=decide_eq_true h0
 have hz:((l:Int) == 0) = false:=by simp;omega
 have hm:=fun W ts t'=>max2_run Tryz.prog W ts t' (t - 53) (-1074)
 rw [hl] at hm
 have KT:=hide CT;have KR:=hide CR
 have hg:decide ((1024:Int) < t) = false:=decide_eq_false (by omega)
 have w1:IntKind.i64.wrap (t - 53) = t - 53:=by simp only [IntKind.wrap_i64];omega
 have w2:IntKind.i64.wrap (last - -1074) = (k:Int):=by simp only [IntKind.wrap_i64];omega
 have w3:IntKind.u64.wrap (k:Int) = (k:Int):=by simp only [IntKind.wrap_u64];omega
 have HRR:=hide (show (M:Int)+(k:Int) * 4503599627370496 = (R:Int) by omega)
 clear CT CR hl hR
 have B0:=hide ((Below.refl w.heap.size w).alloc (Nat.le_refl _) (.cells #[.bool na,.slice ao l ca,.int .i64 E] 41))
 have X0:=hide (Box3.new w (.bool na) (.slice ao l ca) (.int .i64 E))
 go_enter Tryz.func276,Tryz.ntmps276
 go_wp2_with fail
 refine (uH KT _ (uH B0)).mono ?_
 rintro e w1' ⟨rfl,hb1⟩
 have x1:=(uH X0).all hb1
 have B1:=hide ((uH B0).trans (hb1.mono (uH B0).size))
 have X1:=hide x1
 have y0:=x1.c0;have y1:=x1.c1;have y2:=x1.c2
 clear hb1 x1 KT B0 X0
 go_wp2_with fail
 refine (uH KR _ (uH B1)).mono ?_
 rintro e w2' ⟨rfl,hb2⟩
 have x2:=(uH X1).all hb2
 have B2:=hide ((uH B1).trans (hb2.mono (uH B1).size))
 clear y0 y1 y2
 have y0:=x2.c0;have y1:=x2.c1;have y2:=x2.c2
 clear hb2 x2 KR B1 X1
 go_upto_region 8 with (fail)
 rw [uH HRR]
 clear hm w1 w2 w3 hk hk2 hM HRR h0 h0' hz hg ht
 go_wp2
 exact bodyPost_ret (v:=.tuple #[.int .u64 R,.int .u8 5]) (by simp [results,Tryz.results276,go_sem]) rfl ⟨rfl,uH B2⟩
theorem roundSize_u (na:Bool) (ao:Option Addr) (ca l M k R:Nat) (E t last:Int) (w:World) (h0:0 < l) (ht:-100000≤t∧t≤1024) (hl:max (t - 53) (-1074) = last) (hk:last+1074 = k) (hk2:k≤2045) (hM:M≤9007199254740992)
  (CT:∀ w',Below w.heap.size w w'→Calls Tryz.prog 208 #[.agg #[.bool na,.slice ao l ca,.int .i64 E]] w' fun e w''=>e = .returned (.int .i64 t)∧Below w'.heap.size w' w'')
  (CR:∀ w',Below w.heap.size w w'→Calls Tryz.prog 294 #[.agg #[.bool na,.slice ao l ca,.int .i64 E],.int .i64 last] w' fun e w''=>e = .returned (.int .u64 M)∧Below w'.heap.size w' w'')
  (hR:R = M+k * 4503599627370496) (g1:decide (last≤E) = false) (g2:((R:Int) == 9218868437227405312) = false) (g3:decide ((R:Int) < 4503599627370496) = true) :
  Calls Tryz.prog 276 #[.agg #[.bool na,.slice ao l ca,.int .i64 E]] w fun e w'=>e = .returned (.tuple #[.int .u64 R,.int .u8 3])∧Below w.heap.size w w':=by
 have h0':decide (0 < l) = true:=decide_eq_true h0
 have hz:((l:Int) == 0) = false:=by simp;omega
 have hm:=fun W ts t'=>max2_run Tryz.prog W ts t' (t - 53) (-1074)
 rw [hl] at hm
 have KT:=hide CT;have KR:=hide CR
 have hg:decide ((1024:Int) < t) = false:=decide_eq_false (by omega)
 have w1:IntKind.i64.wrap (t - 53) = t - 53:=by simp only [IntKind.wrap_i64];omega
 have w2:IntKind.i64.wrap (last - -1074) = (k:Int):=by simp only [IntKind.wrap_i64];omega
 have w3:IntKind.u64.wrap (k:Int) = (k:Int):=by simp only [IntKind.wrap_u64];omega
 have HRR:=hide (show (M:Int)+(k:Int) * 4503599627370496 = (R:Int) by omega)
 clear CT CR hl hR
 have B0:=hide ((Below.refl w.heap.size w).alloc (Nat.le_refl _) (.cells #[.bool na,.slice ao l ca,.int .i64 E] 41))
 have X0:=hide (Box3.new w (.bool na) (.slice ao l ca) (.int .i64 E))
 go_enter Tryz.func276,Tryz.ntmps276
 go_wp2_with fail
 refine (uH KT _ (uH B0)).mono ?_
 rintro e w1' ⟨rfl,hb1⟩
 have x1:=(uH X0).all hb1
 have B1:=hide ((uH B0).trans (hb1.mono (uH B0).size))
 have X1:=hide x1
 have y0:=x1.c0;have y1:=x1.c1;have y2:=x1.c2
 clear hb1 x1 KT B0 X0
 go_wp2_with fail
 refine (uH KR _ (uH B1)).mono ?_
 rintro e w2' ⟨rfl,hb2⟩
 have x2:=(uH X1).all hb2
 have B2:=hide ((uH B1).trans (hb2.mono (uH B1).size))
 clear y0 y1 y2
 have y0:=x2.c0;have y1:=x2.c1;have y2:=x2.c2
 clear hb2 x2 KR B1 X1
 go_upto_region 8 with (fail)
 rw [uH HRR]
 clear hm w1 w2 w3 hk hk2 hM HRR h0 h0' hz hg ht
 go_wp2
 exact bodyPost_ret (v:=.tuple #[.int .u64 R,.int .u8 3]) (by simp [results,Tryz.results276,go_sem]) rfl ⟨rfl,uH B2⟩
theorem roundSize_n (na:Bool) (ao:Option Addr) (ca l M k R:Nat) (E t last:Int) (w:World) (h0:0 < l) (ht:-100000≤t∧t≤1024) (hl:max (t - 53) (-1074) = last) (hk:last+1074 = k) (hk2:k≤2045) (hM:M≤9007199254740992)
  (CT:∀ w',Below w.heap.size w w'→Calls Tryz.prog 208 #[.agg #[.bool na,.slice ao l ca,.int .i64 E]] w' fun e w''=>e = .returned (.int .i64 t)∧Below w'.heap.size w' w'')
  (CR:∀ w',Below w.heap.size w w'→Calls Tryz.prog 294 #[.agg #[.bool na,.slice ao l ca,.int .i64 E],.int .i64 last] w' fun e w''=>e = .returned (.int .u64 M)∧Below w'.heap.size w' w'')
  (hR:R = M+k * 4503599627370496) (g1:decide (last≤E) = false) (g2:((R:Int) == 9218868437227405312) = false) (g3:decide ((R:Int) < 4503599627370496) = false) :
  Calls Tryz.prog 276 #[.agg #[.bool na,.slice ao l ca,.int .i64 E]] w fun e w'=>e = .returned (.tuple #[.int .u64 R,.int .u8 1])∧Below w.heap.size w w':=by
 have h0':decide (0 < l) = true:=decide_eq_true h0
 have hz:((l:Int) == 0) = false:=by simp;omega
 have hm:=fun W ts t'=>max2_run Tryz.prog W ts t' (t - 53) (-1074)
 rw [hl] at hm
 have KT:=hide CT;have KR:=hide CR
 have hg:decide ((1024:Int) < t) = false:=decide_eq_false (by omega)
 have w1:IntKind.i64.wrap (t - 53) = t - 53:=by simp only [IntKind.wrap_i64];omega
 have w2:IntKind.i64.wrap (last - -1074) = (k:Int):=by simp only [IntKind.wrap_i64];omega
 have w3:IntKind.u64.wrap (k:Int) = (k:Int):=by simp only [IntKind.wrap_u64];omega
 have HRR:=hide (show (M:Int)+(k:Int) * 4503599627370496 = (R:Int) by omega)
 clear CT CR hl hR
 have B0:=hide ((Below.refl w.heap.size w).alloc (Nat.le_refl _) (.cells #[.bool na,.slice ao l ca,.int .i64 E] 41))
 have X0:=hide (Box3.new w (.bool na) (.slice ao l ca) (.int .i64 E))
 go_enter Tryz.func276,Tryz.ntmps276
 go_wp2_with fail
 refine (uH KT _ (uH B0)).mono ?_
 rintro e w1' ⟨rfl,hb1⟩
 have x1:=(uH X0).all hb1
 have B1:=hide ((uH B0).trans (hb1.mono (uH B0).size))
 have X1:=hide x1
 have y0:=x1.c0;have y1:=x1.c1;have y2:=x1.c2
 clear hb1 x1 KT B0 X0
 go_wp2_with fail
 refine (uH KR _ (uH B1)).mono ?_
 rintro e w2' ⟨rfl,hb2⟩
 have x2:=(uH X1).all hb2
 have B2:=hide ((uH B1).trans (hb2.mono (uH B1).size))
 clear y0 y1 y2
 have y0:=x2.c0;have y1:=x2.c1;have y2:=x2.c2
 clear hb2 x2 KR B1 X1
 go_upto_region 8 with (fail)
 rw [uH HRR]
 clear hm w1 w2 w3 hk hk2 hM HRR h0 h0' hz hg ht
 go_wp2
 exact bodyPost_ret (v:=.tuple #[.int .u64 R,.int .u8 1]) (by simp [results,Tryz.results276,go_sem]) rfl ⟨rfl,uH B2⟩
end Go.Proofs.YtdhmglmccafbnaaGreatDoor
namespace Go.Proofs.YtdhmglmccafbnaaGreatDoor
open Go.RowKit
theorem roundSize_z (na:Bool) (ao:Option Addr) (ca:Nat) (E t:Int) (w:World)
  (CT:∀ w',Below w.heap.size w w'→Calls Tryz.prog 208 #[.agg #[.bool na,.slice ao 0 ca,.int .i64 E]] w' fun e w''=>e = .returned (.int .i64 t)∧Below w'.heap.size w' w'') :
  Calls Tryz.prog 276 #[.agg #[.bool na,.slice ao 0 ca,.int .i64 E]] w fun e w'=>e = .returned (.tuple #[.int .u64 0,.int .u8 0])∧Below w.heap.size w w':=by
 have KT:=hide CT
 clear CT
 have B0:=hide ((Below.refl w.heap.size w).alloc (Nat.le_refl _) (.cells #[.bool na,.slice ao 0 ca,.int .i64 E] 41))
 have X0:=hide (Box3.new w (.bool na) (.slice ao 0 ca) (.int .i64 E))
 go_enter Tryz.func276,Tryz.ntmps276
 go_wp2_with fail
 refine (uH KT _ (uH B0)).mono ?_
 rintro e w1' ⟨rfl,hb1⟩
 have x1:=(uH X0).all hb1
 have B1:=hide ((uH B0).trans (hb1.mono (uH B0).size))
 have y0:=x1.c0;have y1:=x1.c1;have y2:=x1.c2
 clear hb1 x1 KT B0 X0
 go_wp2
 exact bodyPost_ret (v:=.tuple #[.int .u64 0,.int .u8 0]) (by simp [results,Tryz.results276,go_sem]) rfl ⟨rfl,uH B1⟩
theorem roundSize_b (na:Bool) (ao:Option Addr) (ca l:Nat) (E t:Int) (w:World) (h0:0 < l) (ht:1024 < t)
  (CT:∀ w',Below w.heap.size w w'→Calls Tryz.prog 208 #[.agg #[.bool na,.slice ao l ca,.int .i64 E]] w' fun e w''=>e = .returned (.int .i64 t)∧Below w'.heap.size w' w'') :
  Calls Tryz.prog 276 #[.agg #[.bool na,.slice ao l ca,.int .i64 E]] w fun e w'=>e = .returned (.tuple #[.int .u64 9218868437227405312,.int .u8 5])∧Below w.heap.size w w':=by
 have h0':decide (0 < l) = true:=decide_eq_true h0
 have hz:((l:Int) == 0) = false:=by simp;omega
 have hg:decide ((1024:Int) < t) = true:=decide_eq_true ht
 have KT:=hide CT
 clear CT ht
 have B0:=hide ((Below.refl w.heap.size w).alloc (Nat.le_refl _) (.cells #[.bool na,.slice ao l ca,.int .i64 E] 41))
 have X0:=hide (Box3.new w (.bool na) (.slice ao l ca) (.int .i64 E))
 go_enter Tryz.func276,Tryz.ntmps276
 go_wp2_with fail
 refine (uH KT _ (uH B0)).mono ?_
 rintro e w1' ⟨rfl,hb1⟩
 have x1:=(uH X0).all hb1
 have B1:=hide ((uH B0).trans (hb1.mono (uH B0).size))
 have y0:=x1.c0;have y1:=x1.c1;have y2:=x1.c2
 clear hb1 x1 KT B0 X0
 go_wp2
 exact bodyPost_ret (v:=.tuple #[.int .u64 9218868437227405312,.int .u8 5]) (by simp [results,Tryz.results276,go_sem]) rfl ⟨rfl,uH B1⟩
theorem val_ne {n:Bool} {L:List Nat} (hr:rightB n L = true) (h0:L ≠ []):val L ≠ 0:=fun h=>h0 ((val_zero_of_canon L (right_canon hr).2.1).1 h)
theorem roundSize_any (na:Bool) (ao:Option Addr) (ca:Nat) (A:List Nat) (E:Int) (w:World) (hA:LimbsAt w ao ca A) (hr:drB na A E = true) :
  Calls Tryz.prog 276 #[.agg #[.bool na,.slice ao A.length ca,.int .i64 E]] w fun e w'=>e = .returned (.tuple #[.int .u64 (rnd (val A) E:Nat),.int .u8 (rflag (val A) E)])∧Below w.heap.size w w':=by
 obtain ⟨d1,d2,d3,d4,d5⟩:=drB_bounds hr
 have CT:∀ w',Below w.heap.size w w'→Calls Tryz.prog 208 #[.agg #[.bool na,.slice ao A.length ca,.int .i64 E]] w' fun e w''=>e = .returned (.int .i64 (IntKind.i64.wrap (lenL A+E)))∧Below w'.heap.size w' w'':=fun w' hb=>dtop_any na ao ca A E w' (hA.below hb) (by omega)
 rw [lenL_bl hA.2.1 d1] at CT
 by_cases h0:A = []
 ·subst h0
  have e1:rnd (val []) E = 0:=by simp [rnd,val]
  have e2:rflag (val []) E = 0:=by simp [rflag,val]
  rw [e1,e2]
  exact roundSize_z na ao ca E _ w CT
 ·have hv:=val_ne d1 h0
  have hl:0 < A.length:=List.length_pos_iff.2 h0
  have hbl:bl (val A)≤16384:=by
   have h1:=bl_spec (val A) hv
   have h2:=val_lt_pow A hA.2.1 512 d2
   have:=pow_lt_of (Nat.lt_of_le_of_lt h1.2.1 h2)
   omega
  have hw:IntKind.i64.wrap ((bl (val A):Int)+E) = (bl (val A):Int)+E:=by simp only [IntKind.wrap_i64];omega
  rw [hw] at CT
  by_cases ht:1024 < (bl (val A):Int)+E
  ·have e1:rnd (val A) E = 9218868437227405312:=by unfold rnd;rw [if_neg hv,if_pos ht]
   have e2:rflag (val A) E = 5:=by unfold rflag;rw [if_neg hv,if_pos ht]
   rw [e1,e2]
   exact roundSize_b na ao ca A.length E _ w hl ht CT
  ·have hR:=rnd_fin (val A) E hv (by omega)
   obtain ⟨l1,l2,l3⟩:=lastE_ge (val A) E
   have hM:=(rndM_bounds (val A) E hv).1
   have hN:=pN_lt (val A) E hv
   have hbl1:=(bl_spec (val A) hv).1
   have CR:∀ w',Below w.heap.size w w'→Calls Tryz.prog 294 #[.agg #[.bool na,.slice ao A.length ca,.int .i64 E],.int .i64 (lastE (val A) E)] w' fun e w''=>e = .returned (.int .u64 (rndM (val A) E:Nat))∧Below w'.heap.size w' w'':=fun w' hb =>
    roundAt_any na ao ca A E _ w' (hA.below hb) hr h0 (by omega) (by omega) hN
   have hmax:max ((bl (val A):Int)+E - 53) (-1074) = lastE (val A) E:=rfl
   have hk:lastE (val A) E+1074 = ((lastE (val A) E+1074).toNat:Int):=by omega
   have e2:rflag (val A) E = if lastE (val A) E≤E then 0 else if rnd (val A) E = 9218868437227405312 then 5 else if rnd (val A) E < 4503599627370496 then 3 else 1:=by unfold rflag;rw [if_neg hv,if_neg ht]
   by_cases g1:lastE (val A) E≤E
   ·rw [e2,if_pos g1]
    exact roundSize_e na ao ca A.length _ _ _ E _ _ w hl (by omega) hmax hk (by omega) hM CT CR hR (decide_eq_true g1)
   ·rw [if_neg g1] at e2
    by_cases g2:rnd (val A) E = 9218868437227405312
    ·rw [e2,if_pos g2]
     exact roundSize_i na ao ca A.length _ _ _ E _ _ w hl (by omega) hmax hk (by omega) hM CT CR hR (decide_eq_false g1) (by simp;omega)
    ·rw [if_neg g2] at e2
     have g2':((rnd (val A) E:Int) == 9218868437227405312) = false:=by simp;omega
     by_cases g3:rnd (val A) E < 4503599627370496
     ·rw [e2,if_pos g3]
      exact roundSize_u na ao ca A.length _ _ _ E _ _ w hl (by omega) hmax hk (by omega) hM CT CR hR (decide_eq_false g1) g2' (decide_eq_true (by omega))
     ·rw [e2,if_neg g3]
      exact roundSize_n na ao ca A.length _ _ _ E _ _ w hl (by omega) hmax hk (by omega) hM CT CR hR (decide_eq_false g1) g2' (decide_eq_false (by omega))
def wrd (neg:Bool) (r:Nat):Nat:=if neg = true then r+9223372036854775808 else r
theorem wrd_true (r:Nat):wrd true r = r+9223372036854775808:=if_pos rfl
theorem wrd_false (r:Nat):wrd false r = r:=if_neg Bool.false_ne_true
theorem fN_wrd (r:Nat) (h:r < 9223372036854775808):fN r = wrd true r:=by rw [wrd_true];unfold fN;exact if_neg (by omega)
theorem round_right (na:Bool) (ao:Option Addr) (ca:Nat) (A:List Nat) (E:Int) (w:World) (hA:LimbsAt w ao ca A) (hr:drB na A E = true) (hT:Tab w) :
  Calls Tryz.prog 251 #[.agg #[.bool na,.slice ao A.length ca,.int .i64 E]] w fun e w'=>e = .returned (.tuple #[.int .u64 (wrd na (rnd (val A) E):Nat),.int .u8 (rflag (val A) E),.int .i64 0])∧Below w.heap.size w w':=by
 have la:=(drB_bounds hr).2.1
 have CC:=hide (fun w' h t=>dcheck_any na ao ca A E w' h (by omega) t)
 have he:drE na A E = 0:=by unfold drE;rw [hr];rfl
 rw [he] at CC
 have CR:=hide (fun w' h=>roundSize_any na ao ca A E w' h hr)
 have hle:=rnd_le (val A) E
 have hn:fN (rnd (val A) E) = wrd true (rnd (val A) E):=fN_wrd _ (by omega)
 have CM:=hide (fun w'=>sminus_any (rnd (val A) E) w' (by omega))
 rw [hn] at CM
 clear he hr la
 have B0:=hide ((Below.refl w.heap.size w).alloc (Nat.le_refl _) (.cells #[.bool na,.slice ao A.length ca,.int .i64 E] 41))
 have X0:=hide (Box3.new w (.bool na) (.slice ao A.length ca) (.int .i64 E))
 have HA:=hide (hA.below (uH B0));have HT:=hide (hT.all (uH B0))
 have hw0:wrd false (rnd (val A) E) = rnd (val A) E:=wrd_false _
 clear hA hT hle hn
 generalize rflag (val A) E = fl at *
 generalize rnd (val A) E = R at *
 cases na
 ·rw [hw0]
  clear CM hw0
  go_enter Tryz.func251,Tryz.ntmps251
  go_wp2_with fail
  refine (uH CC _ (uH HA) (uH HT)).mono ?_
  rintro e w1 ⟨rfl,hb1⟩
  have B1:=hide ((uH B0).trans (hb1.mono (uH B0).size))
  have x1:=(uH X0).all hb1
  have HA1:=hide ((uH HA).below hb1)
  have y0:=x1.c0;have y1:=x1.c1;have y2:=x1.c2
  have X1:=hide x1
  clear hb1 B0 CC HA HT X0 x1
  go_wp2_with fail
  refine (uH CR _ (uH HA1)).mono ?_
  rintro e w2 ⟨rfl,hb2⟩
  have B2:=hide ((uH B1).trans (hb2.mono (uH B1).size))
  have x2:=(uH X1).all hb2
  clear y0 y1 y2
  have y0:=x2.c0;have y1:=x2.c1;have y2:=x2.c2
  clear hb2 x2 CR B1 X1
  go_wp2
  exact bodyPost_ret (v:=.tuple #[.int .u64 R,.int .u8 fl,.int .i64 0]) (by simp [results,Tryz.results251,go_sem]) rfl ⟨rfl,uH B2⟩
 ·clear hw0
  generalize wrd true R = R' at *
  go_enter Tryz.func251,Tryz.ntmps251
  go_wp2_with fail
  refine (uH CC _ (uH HA) (uH HT)).mono ?_
  rintro e w1 ⟨rfl,hb1⟩
  have B1:=hide ((uH B0).trans (hb1.mono (uH B0).size))
  have x1:=(uH X0).all hb1
  have HA1:=hide ((uH HA).below hb1)
  have y0:=x1.c0;have y1:=x1.c1;have y2:=x1.c2
  have X1:=hide x1
  clear hb1 B0 CC HA HT X0 x1
  go_wp2_with fail
  refine (uH CR _ (uH HA1)).mono ?_
  rintro e w2 ⟨rfl,hb2⟩
  have B2:=hide ((uH B1).trans (hb2.mono (uH B1).size))
  have x2:=(uH X1).all hb2
  clear y0 y1 y2
  have y0:=x2.c0;have y1:=x2.c1;have y2:=x2.c2
  clear hb2 x2 CR B1 X1
  go_wp2_with (go_at_call 188;refine (uH CM _).mono ?_;rintro e w3 ⟨rfl,rfl⟩)
  exact bodyPost_ret (v:=.tuple #[.int .u64 R',.int .u8 fl,.int .i64 0]) (by simp [results,Tryz.results251,go_sem]) rfl ⟨rfl,uH B2⟩
end Go.Proofs.YtdhmglmccafbnaaGreatDoor
namespace Go.Proofs.YtdhmglmccafbnaaGreatDoor
open Go.RowKit
theorem round_dy {w:World} {v:Value} {m e:Int} (h:IsDy w v m e) (hm:m.natAbs < TOP) (hr:dRt m e = true) (hT:Tab w) :
  Calls Tryz.prog 251 #[v] w fun r w'=>r = .returned (.tuple #[.int .u64 (wrd (decide (m < 0)) (rnd m.natAbs e):Nat),.int .u8 (rflag m.natAbs e),.int .i64 0])∧Below w.heap.size w w':=by
 obtain ⟨n,a,c,L,rfl,h1,h2,h3,h4,h5⟩:=h.right hm
 have hn:n = decide (m < 0):=by
  obtain ⟨n',a',c',L',e1,_,_,e4,_⟩:=h.parts
  simp only [Value.agg.injEq,Array.mk.injEq,List.cons.injEq,Value.bool.injEq] at e1
  rw [e1.1];exact e4
 have hv:val L = m.natAbs:=by rw [← h3,natAbs_sval]
 have:=round_right n a c L e w h1 (h5.trans hr) hT
 rw [hv,hn] at this
 rw [hn]
 exact this
end Go.Proofs.YtdhmglmccafbnaaGreatDoor
namespace Go.Proofs.YtdhmglmccafbnaaGreatDoor
open Go.RowKit
theorem fM_abs (b:Nat):(fM b).natAbs = fA b:=by unfold fM sg;split <;> simp
theorem fin_lt (b:Nat) (hf:fFin b = true):fP b < 2047:=by
 have:=fP_lt b
 unfold fFin at hf
 simp at hf
 omega
theorem rnd_bits (b:Nat) (hf:fFin b = true):rnd (fA b) (fE b) = b % 9223372036854775808∧lastE (fA b) (fE b) = fE b∧(bl (fA b):Int)+fE b≤1024:=by
 have hp:=fin_lt b hf
 have hb:b % 9223372036854775808 = fF b+fP b * 4503599627370496:=by unfold fF fP;omega
 have hfl:=fF_lt b
 rw [hb]
 by_cases h0:fP b = 0
 ·have e1:fA b = fF b:=by unfold fA;rw [if_pos h0]
  have e2:fE b = -1074:=by unfold fE;rw [if_pos h0]
  rw [e1,e2,h0]
  generalize fF b = f at *
  by_cases hz:f = 0
  ·subst hz
   exact ⟨by simp [rnd],by decide,by decide⟩
  ·obtain ⟨a1,a2,a3⟩:=bl_spec f hz
   have hbl:bl f≤52:=by
    have h1:(2:Nat) ^ (bl f - 1) < 2 ^ 52:=by rw [p52];omega
    have:=pow_lt_of h1
    omega
   have hl:lastE f (-1074) = -1074:=by unfold lastE;omega
   refine ⟨?_,hl,by omega⟩
   rw [rnd_fin f _ hz (by omega)]
   unfold rndM
   rw [hl]
   have:=mS_up f 0
   simp at this
   simp [this]
 ·have e1:fA b = fF b+4503599627370496:=by unfold fA;rw [if_neg h0]
  have e2:fE b = (fP b:Int) - 1075:=by unfold fE;rw [if_neg h0]
  rw [e1,e2]
  generalize fF b = f at *
  generalize fP b = p at *
  have hbl:bl (f+4503599627370496) = 53:=bl_of (by decide) (by show 2 ^ 52≤_;rw [p52];omega) (by rw [p53];omega)
  have hl:lastE (f+4503599627370496) ((p:Int) - 1075) = (p:Int) - 1075:=by unfold lastE;rw [hbl];omega
  refine ⟨?_,hl,by rw [hbl];omega⟩
  rw [rnd_fin _ _ (by omega) (by rw [hbl];omega)]
  unfold rndM
  rw [hl]
  have:=mS_up (f+4503599627370496) 0
  simp at this
  rw [show (p:Int) - 1075 - ((p:Int) - 1075) = 0 by omega,this]
  omega
theorem oM_abs (z:Int) (h:z ≠ 0):z.natAbs = (oM z).natAbs * 2 ^ tz z.natAbs:=by
 have h1:=(oddOf z h).1
 have h2:=congrArg Int.natAbs h1
 rw [Int.natAbs_mul,Int.natAbs_pow] at h2
 exact h2
theorem oM_sign (z:Int):decide (oM z < 0) = decide (z < 0):=by
 have h:=sgnI_oM z
 unfold sgnI at h
 by_cases h1:oM z < 0
 ·rw [if_pos h1] at h
  by_cases h2:z < 0
  ·rw [decide_eq_true h1,decide_eq_true h2]
  ·rw [if_neg h2] at h
   split at h <;> omega
 ·rw [if_neg h1] at h
  by_cases h2:z < 0
  ·rw [if_pos h2] at h
   split at h <;> omega
  ·rw [decide_eq_false h1,decide_eq_false h2]
theorem rnd_odd (z e:Int):rnd (oM z).natAbs (oE z e) = rnd z.natAbs e∧(z ≠ 0→lastE (oM z).natAbs (oE z e) = lastE z.natAbs e∧(bl (oM z).natAbs:Int)+oE z e = (bl z.natAbs:Int)+e):=by
 by_cases h:z = 0
 ·subst h
  refine ⟨by rw [oM_zero];simp [rnd],fun h=>absurd rfl h⟩
 ·have ha:=oM_abs z h
  have hne:(oM z).natAbs ≠ 0:=by have:=(oM_ne z h).1;omega
  rw [oE_ne z e h]
  generalize tz z.natAbs = k at *
  rw [ha,rnd_scale]
  refine ⟨rfl,fun _=>?_⟩
  have hb:=bl_scale (oM z).natAbs k hne
  refine ⟨?_,by rw [hb];omega⟩
  unfold lastE
  rw [hb]
  congr 1
  omega
end Go.Proofs.YtdhmglmccafbnaaGreatDoor
namespace Go.Proofs.YtdhmglmccafbnaaGreatDoor
theorem fS_wrd (n:Bool) (s:Nat) (h:s < 9223372036854775808):fS (wrd n s) = n:=by
 unfold fS
 cases n
 ·rw [wrd_false];exact decide_eq_false (by omega)
 ·rw [wrd_true];exact decide_eq_true (by omega)
theorem fP_wrd (n:Bool) (s:Nat) (h:s < 9223372036854775808):fP (wrd n s) = s / 4503599627370496:=by
 unfold fP
 cases n
 ·rw [wrd_false];omega
 ·rw [wrd_true];omega
theorem fF_wrd (n:Bool) (s:Nat) (_h:s < 9223372036854775808):fF (wrd n s) = s % 4503599627370496:=by
 unfold fF
 cases n
 ·rw [wrd_false]
 ·rw [wrd_true];omega
theorem fM_wrd (n:Bool) (s:Nat) (h:s < 9218868437227405312):∃ j:Nat,fE (wrd n s) = -1074+(j:Int)∧fM (wrd n s) * 2 ^ j = sg n (rv s):=by
 have e1:=fP_wrd n s (by omega)
 have e2:=fF_wrd n s (by omega)
 have e3:=fS_wrd n s (by omega)
 unfold fM fE fA rv
 rw [e1,e2,e3]
 by_cases c1:s < 4503599627370496
 ·rw [if_pos (by omega),if_pos (by omega),if_pos c1]
  refine ⟨0,by simp,?_⟩
  rw [Nat.mod_eq_of_lt c1]
  simp
 ·rw [if_neg (by omega),if_neg (by omega),if_neg c1]
  refine ⟨s / 4503599627370496 - 1,by omega,?_⟩
  rw [Nat.add_comm 4503599627370496]
  generalize s % 4503599627370496+4503599627370496 = m
  generalize s / 4503599627370496 - 1 = j
  unfold sg
  cases n
  ·simp
  ·simp [Int.neg_mul]
end Go.Proofs.YtdhmglmccafbnaaGreatDoor
namespace Go.Proofs.YtdhmglmccafbnaaGreatDoor
open Go.RowKit
def pv (n:Bool) (r:Nat):Int:=if n = true then -(rv r:Int) else (rv r:Int)
theorem wrd_parts (n:Bool) (r:Nat) (h:r < 9223372036854775808):(wrd n r / 9223372036854775808 % 2 == 1) = n∧wrd n r % 9223372036854775808 = r:=by
 cases n
 ·rw [wrd_false];exact ⟨by simp;omega,by omega⟩
 ·rw [wrd_true];exact ⟨by simp;omega,by omega⟩
theorem rv_lt {r s:Nat} (h:r < s):rv r < rv s:=Nat.lt_of_lt_of_le (rv_succ r) (rv_mono h)
def pvZ (z l:Int):Int:=pv (decide (z < 0)) (rnd z.natAbs l)
theorem pvZ_mono {z y l:Int} (h:z≤y):pvZ z l≤pvZ y l:=by
 unfold pvZ pv
 by_cases h1:z < 0
 ·rw [decide_eq_true h1,if_pos rfl]
  by_cases h2:y < 0
  ·rw [decide_eq_true h2,if_pos rfl]
   have:=rv_mono (rnd_mono l (show y.natAbs≤z.natAbs by omega))
   omega
  ·rw [decide_eq_false h2,if_neg (by decide)]
   omega
 ·rw [decide_eq_false h1,decide_eq_false (show ¬ y < 0 by omega),if_neg (by decide),if_neg (by decide)]
  have:=rv_mono (rnd_mono l (show z.natAbs≤y.natAbs by omega))
  omega
end Go.Proofs.YtdhmglmccafbnaaGreatDoor
namespace Go.Proofs.YtdhmglmccafbnaaGreatDoor
open Go.RowKit
theorem up_level (z lo:Int) (k:Nat) (h:z ≠ 0→lo+k≤oE z lo):up (oM z) (oE z lo) (lo+k) * 2 ^ k = z:=by
 by_cases h0:z = 0
 ·subst h0;rw [oM_zero,up_zero];simp
 ·have h1:=h h0
  conv=>rhs;rw [← oM_level z lo h0]
  unfold up
  rw [Int.mul_assoc,← Int.pow_add]
  congr 2
  omega
theorem low_level {lo:Int} {W:Nat} {z1 z2:Int} (h1:Lvl lo W z1) (h2:Lvl lo W z2) (h0:¬ (z1 = 0∧z2 = 0)) :
  ∃ k:Nat,lowE (oM z1) (oE z1 lo) (oM z2) (oE z2 lo) = lo+k∧up (oM z1) (oE z1 lo) (lo+k) * 2 ^ k = z1∧up (oM z2) (oE z2 lo) (lo+k) * 2 ^ k = z2∧oE z1 lo - (lo+k)≤16384∧oE z2 lo - (lo+k)≤16384:=by
 have b1:=h1.2.1
 have b2:=h1.2.2.1
 have b3:=h1.2.2.2
 have hb:∀ z,Lvl lo W z→(z = 0∧oM z = 0∧oE z lo = 0) ∨ (z ≠ 0∧oM z ≠ 0∧oE z lo = lo+(tz z.natAbs:Int)∧tz z.natAbs < W):=fun z hz=>by
  by_cases e:z = 0
  ·left;subst e;exact ⟨rfl,oM_zero,oE_zero _⟩
  ·right;exact ⟨e,(oM_ne z e).1,oE_ne z lo e,hz.tzs e⟩
 rcases hb z1 h1 with ⟨e1,m1,x1⟩ | ⟨e1,m1,x1,t1⟩
 ·rcases hb z2 h2 with ⟨e2,m2,x2⟩ | ⟨e2,m2,x2,t2⟩
  ·exact absurd ⟨e1,e2⟩ h0
  ·refine ⟨tz z2.natAbs,?_,up_level z1 lo _ (fun h=>absurd e1 h),up_level z2 lo _ (fun _=>by omega),by omega,by omega⟩
   unfold lowE;rw [if_pos m1];exact x2
 ·rcases hb z2 h2 with ⟨e2,m2,x2⟩ | ⟨e2,m2,x2,t2⟩
  ·refine ⟨tz z1.natAbs,?_,up_level z1 lo _ (fun _=>by omega),up_level z2 lo _ (fun h=>absurd e2 h),by omega,by omega⟩
   unfold lowE;rw [if_neg m1,if_pos m2];exact x1
  ·refine ⟨min (tz z1.natAbs) (tz z2.natAbs),?_,up_level z1 lo _ (fun _=>by omega),up_level z2 lo _ (fun _=>by omega),by omega,by omega⟩
   rw [lowE_ne _ _ _ _ m1 m2,x1,x2];omega
theorem le_scaled {u z:Int} {k:Nat} (h:u * 2 ^ k = z):u.natAbs≤z.natAbs:=by
 rw [← h,Int.natAbs_mul,Int.natAbs_pow]
 exact Nat.le_mul_of_pos_right _ (Nat.pow_pos (by decide))
theorem Lvl.neg {lo:Int} {W:Nat} {z:Int} (h:Lvl lo W z):Lvl lo W (-z):=⟨by rw [Int.natAbs_neg];exact h.1,h.2⟩
theorem dRt_in {m e:Int} (h:dRt m e = true):-16384≤e∧e≤16384:=by
 unfold dRt at h
 by_cases h0:m = 0
 ·rw [if_pos h0] at h;have:=of_decide_eq_true h;omega
 ·rw [if_neg h0,Bool.and_eq_true] at h;exact of_decide_eq_true h.2
theorem rsubN {w:World} {v u:Value} {lo:Int} {W:Nat} {z1 z2:Int} (hv:IsDy w v (oM z1) (oE z1 lo)) (hu:IsDy w u (oM z2) (oE z2 lo)) (h1:Lvl lo W z1) (h2:Lvl lo W z2) :
  Calls Tryz.prog 64 #[v,u] w fun r w'=>∃ q,r = .returned q∧IsDy w' q (oM (z1 - z2)) (oE (z1 - z2) lo)∧Below w.heap.size w w':=by
 obtain ⟨na,ao,ca,A,rfl,a1,a2,a3,a4,a5⟩:=hv.right h1.right.2
 obtain ⟨nb,bo,cb,B,rfl,b1,b2,b3,b4,b5⟩:=hu.right h2.right.2
 have x1:=dRt_in h1.right.1
 have x2:=dRt_in h2.right.1
 have hn:=oM_neg z2
 have hN:=h2.neg
 have t1:=h1.tops
 have t2:=hN.tops
 by_cases h0:z1 = 0∧z2 = 0
 ·obtain ⟨rfl,rfl⟩:=h0
  have hz:∀ W:World,W = W:=fun _=>rfl
  rw [oM_zero] at a3 b3
  rw [oE_zero] at *
  have eZ:sumZ 0 0 (-0) 0 = 0:=by decide
  have eU:upE 0 0 (lowE 0 0 (-0) 0) = 0:=upE_ok _ _ _ (by rw [up_zero];exact TOP_pos) (by decide)
  have eU2:upE (-0) 0 (lowE 0 0 (-0) 0) = 0:=upE_ok _ _ _ (by rw [Int.neg_zero,up_zero];exact TOP_pos) (by decide)
  have:=rsub_any na nb ao bo ca cb A B 0 0 w a1 b1 a2 b2 (by omega) (by omega) (by rw [a3,b3];exact eU) (by rw [a3,b3];exact eU2)
  rw [a3,b3,eZ,oM_zero,oE_zero] at this
  simpa [oM_zero,oE_zero] using this
 ·obtain ⟨k,e1,e2,e3,e4,e5⟩:=low_level h1 hN (by omega)
  have hx:oE (-z2) lo = oE z2 lo:=hn.2 lo
  rw [hn.1,hx] at e1
  have e3':=e3
  rw [hn.1,hx] at e3
  rw [hx] at e5
  have g1:upE (oM z1) (oE z1 lo) (lo+k) = 0:=upE_ok _ _ _ (Nat.lt_of_le_of_lt (le_scaled e2) t1) e4
  have g2:upE (-oM z2) (oE z2 lo) (lo+k) = 0:=upE_ok _ _ _ (Nat.lt_of_le_of_lt (le_scaled e3) t2) e5
  have:=rsub_any na nb ao bo ca cb A B _ _ w a1 b1 a2 b2 x1 x2 (by rw [a3,b3,e1];exact g1) (by rw [a3,b3,e1];exact g2)
  rw [a3,b3,e1] at this
  have hZ:sumZ (oM z1) (oE z1 lo) (-oM z2) (oE z2 lo) * 2 ^ k = z1 - z2:=by
   unfold sumZ
   rw [e1,Int.add_mul,e2,e3,Int.sub_eq_add_neg]
  generalize sumZ (oM z1) (oE z1 lo) (-oM z2) (oE z2 lo) = Z at *
  have hs:=oM_scale Z k lo
  rw [hZ] at hs
  rw [hs.1,hs.2]
  exact this
theorem cmpI_scale (u v:Int) (k:Nat):cmpI (u * 2 ^ k) (v * 2 ^ k) = cmpI u v:=by
 rw [cmpI_sgn,cmpI_sgn,← Int.sub_mul,sgnI_mul_pow]
theorem rcmpN {w:World} {v u:Value} {lo:Int} {W:Nat} {z1 z2:Int} (hv:IsDy w v (oM z1) (oE z1 lo)) (hu:IsDy w u (oM z2) (oE z2 lo)) (h1:Lvl lo W z1) (h2:Lvl lo W z2) :
  Calls Tryz.prog 51 #[v,u] w fun r w'=>r = .returned (.int .i64 (cmpI z1 z2))∧Below w.heap.size w w':=by
 obtain ⟨na,ao,ca,A,rfl,a1,a2,a3,a4,a5⟩:=hv.right h1.right.2
 obtain ⟨nb,bo,cb,B,rfl,b1,b2,b3,b4,b5⟩:=hu.right h2.right.2
 have:=rcompare_any na nb ao bo ca cb A B _ _ w a1 b1 (a5.trans h1.right.1) (b5.trans h2.right.1)
 rw [a3,b3] at this
 have hc:cmpV (oM z1) (oE z1 lo) (oM z2) (oE z2 lo) = cmpI z1 z2:=by
  by_cases h0:z1 = 0∧z2 = 0
  ·obtain ⟨rfl,rfl⟩:=h0
   rw [oM_zero,oE_zero];rfl
  ·obtain ⟨k,e1,e2,e3,_,_⟩:=low_level h1 h2 h0
   unfold cmpV
   rw [e1,← cmpI_scale _ _ k,e2,e3]
 rwa [hc] at this
theorem oM_oM (z:Int):oM (oM z) = oM z:=by
 by_cases h:z = 0
 ·subst h;rw [oM_zero,oM_zero]
 ·have h1:=oM_ne z h
  have:=(oddOf (oM z) h1.1).unique (m':=oM z) (k':=0) ⟨by simp,h1.2⟩
  exact this.1
theorem oE_oM (z e:Int) (h:z ≠ 0):oE (oM z) e = e:=by
 have h1:=oM_ne z h
 have:=(oddOf (oM z) h1.1).unique (m':=oM z) (k':=0) ⟨by simp,h1.2⟩
 rw [oE_ne _ _ h1.1,this.2];simp
end Go.Proofs.YtdhmglmccafbnaaGreatDoor
