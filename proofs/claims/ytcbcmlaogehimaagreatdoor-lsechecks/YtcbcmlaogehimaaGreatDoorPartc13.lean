/- Part 13 of the texts. -/
import Derived.Test.YtcbcmlaogehimaaGreatDoorPartc12
import Derived.Test.YtcbcmlaogehimaaGreatDoorPartc11
import Derived.Test.YtcbcmlaogehimaaGreatDoorPartc10
import Ieee.Arith
set_option maxHeartbeats 4000000
set_option maxRecDepth 20000
namespace Go.Proofs.YtcbcmlaogehimaaGreatDoor
theorem fS_wrd (n:Bool) (s:Nat) (h:s < 9223372036854775808):fS (wrd n s) = n:=by
 unfold fS
 cases n
 ·rw [wrd_false];exact decide_eq_false (by omega)
 ·rw [wrd_true];exact decide_eq_true (by omega)
theorem fP_wrd (n:Bool) (s:Nat) (h:s < 9223372036854775808):fP (wrd n s) = s / 4503599627370496:=by
 unfold fP
 cases n
 ·rw [wrd_false];omega
 ·rw [wrd_true];omega
theorem fF_wrd (n:Bool) (s:Nat) (_h:s < 9223372036854775808):fF (wrd n s) = s % 4503599627370496:=by
 unfold fF
 cases n
 ·rw [wrd_false]
 ·rw [wrd_true];omega
theorem fM_wrd (n:Bool) (s:Nat) (h:s < 9218868437227405312):∃ j:Nat,fE (wrd n s) = -1074+(j:Int)∧fM (wrd n s) * 2 ^ j = sg n (rv s):=by
 have e1:=fP_wrd n s (by omega)
 have e2:=fF_wrd n s (by omega)
 have e3:=fS_wrd n s (by omega)
 unfold fM fE fA rv
 rw [e1,e2,e3]
 by_cases c1:s < 4503599627370496
 ·rw [if_pos (by omega),if_pos (by omega),if_pos c1]
  refine ⟨0,by simp,?_⟩
  rw [Nat.mod_eq_of_lt c1]
  simp
 ·rw [if_neg (by omega),if_neg (by omega),if_neg c1]
  refine ⟨s / 4503599627370496 - 1,by omega,?_⟩
  rw [Nat.add_comm 4503599627370496]
  generalize s % 4503599627370496+4503599627370496 = m
  generalize s / 4503599627370496 - 1 = j
  unfold sg
  cases n
  ·simp
  ·simp [Int.neg_mul]
end Go.Proofs.YtcbcmlaogehimaaGreatDoor
namespace Go.Proofs.YtcbcmlaogehimaaGreatDoor
open Go.RowKit
def pv (n:Bool) (r:Nat):Int:=if n = true then -(rv r:Int) else (rv r:Int)
theorem rv_lt {r s:Nat} (h:r < s):rv r < rv s:=Nat.lt_of_lt_of_le (rv_succ r) (rv_mono h)
end Go.Proofs.YtcbcmlaogehimaaGreatDoor
namespace Go.Proofs.YtcbcmlaogehimaaGreatDoor
open Go.RowKit
theorem up_level (z lo:Int) (k:Nat) (h:z ≠ 0→lo+k≤oE z lo):up (oM z) (oE z lo) (lo+k) * 2 ^ k = z:=by
 by_cases h0:z = 0
 ·subst h0;rw [oM_zero,up_zero];simp
 ·have h1:=h h0
  conv=>rhs;rw [← oM_level z lo h0]
  unfold up
  rw [Int.mul_assoc,← Int.pow_add]
  congr 2
  omega
theorem low_level {lo:Int} {W:Nat} {z1 z2:Int} (h1:Lvl lo W z1) (h2:Lvl lo W z2) (h0:¬ (z1 = 0∧z2 = 0)) :
  ∃ k:Nat,lowE (oM z1) (oE z1 lo) (oM z2) (oE z2 lo) = lo+k∧up (oM z1) (oE z1 lo) (lo+k) * 2 ^ k = z1∧up (oM z2) (oE z2 lo) (lo+k) * 2 ^ k = z2∧oE z1 lo - (lo+k)≤16384∧oE z2 lo - (lo+k)≤16384:=by
 have b1:=h1.2.1
 have b2:=h1.2.2.1
 have b3:=h1.2.2.2
 have hb:∀ z,Lvl lo W z→(z = 0∧oM z = 0∧oE z lo = 0) ∨ (z ≠ 0∧oM z ≠ 0∧oE z lo = lo+(tz z.natAbs:Int)∧tz z.natAbs < W):=fun z hz=>by
  by_cases e:z = 0
  ·left;subst e;exact ⟨rfl,oM_zero,oE_zero _⟩
  ·right;exact ⟨e,(oM_ne z e).1,oE_ne z lo e,hz.tzs e⟩
 rcases hb z1 h1 with ⟨e1,m1,x1⟩ | ⟨e1,m1,x1,t1⟩
 ·rcases hb z2 h2 with ⟨e2,m2,x2⟩ | ⟨e2,m2,x2,t2⟩
  ·exact absurd ⟨e1,e2⟩ h0
  ·refine ⟨tz z2.natAbs,?_,up_level z1 lo _ (fun h=>absurd e1 h),up_level z2 lo _ (fun _=>by omega),by omega,by omega⟩
   unfold lowE;rw [if_pos m1];exact x2
 ·rcases hb z2 h2 with ⟨e2,m2,x2⟩ | ⟨e2,m2,x2,t2⟩
  ·refine ⟨tz z1.natAbs,?_,up_level z1 lo _ (fun _=>by omega),up_level z2 lo _ (fun h=>absurd e2 h),by omega,by omega⟩
   unfold lowE;rw [if_neg m1,if_pos m2];exact x1
  ·refine ⟨min (tz z1.natAbs) (tz z2.natAbs),?_,up_level z1 lo _ (fun _=>by omega),up_level z2 lo _ (fun _=>by omega),by omega,by omega⟩
   rw [lowE_ne _ _ _ _ m1 m2,x1,x2];omega
theorem cmpI_scale (u v:Int) (k:Nat):cmpI (u * 2 ^ k) (v * 2 ^ k) = cmpI u v:=by
 rw [cmpI_sgn,cmpI_sgn,← Int.sub_mul,sgnI_mul_pow]
theorem rcmpN {w:World} {v u:Value} {lo:Int} {W:Nat} {z1 z2:Int} (hv:IsDy w v (oM z1) (oE z1 lo)) (hu:IsDy w u (oM z2) (oE z2 lo)) (h1:Lvl lo W z1) (h2:Lvl lo W z2) :
  Calls Tryz.prog 33 #[v,u] w fun r w'=>r = .returned (.int .i64 (cmpI z1 z2))∧Below w.heap.size w w':=by
 obtain ⟨na,ao,ca,A,rfl,a1,a2,a3,a4,a5⟩:=hv.right h1.right.2
 obtain ⟨nb,bo,cb,B,rfl,b1,b2,b3,b4,b5⟩:=hu.right h2.right.2
 have:=rcompare_any na nb ao bo ca cb A B _ _ w a1 b1 (a5.trans h1.right.1) (b5.trans h2.right.1)
 rw [a3,b3] at this
 have hc:cmpV (oM z1) (oE z1 lo) (oM z2) (oE z2 lo) = cmpI z1 z2:=by
  by_cases h0:z1 = 0∧z2 = 0
  ·obtain ⟨rfl,rfl⟩:=h0
   rw [oM_zero,oE_zero];rfl
  ·obtain ⟨k,e1,e2,e3,_,_⟩:=low_level h1 h2 h0
   unfold cmpV
   rw [e1,← cmpI_scale _ _ k,e2,e3]
 rwa [hc] at this
end Go.Proofs.YtcbcmlaogehimaaGreatDoor
namespace Go.Proofs.YtcbcmlaogehimaaGreatDoor
open Go.RowKit
def fR (b:Nat):Nat:=b % 9223372036854775808
def fZ (b:Nat):Int:=pv (fS b) (fR b)
theorem b_wrd (b:Nat) (h:b < 18446744073709551616):wrd (fS b) (fR b) = b:=by
 unfold fS fR
 by_cases c:9223372036854775808≤b
 ·rw [decide_eq_true c,wrd_true];omega
 ·rw [decide_eq_false c,wrd_false];omega
theorem fR_lt (b:Nat):fR b < 9223372036854775808:=by unfold fR;omega
theorem fR_fin (b:Nat) (hf:fFin b = true):fR b < 9218868437227405312:=by
 have h1:=of_decide_eq_true hf
 unfold fP at h1
 unfold fR
 omega
theorem sg_pv (n:Bool) (s:Nat):sg n (rv s) = pv n s:=rfl
theorem fZ_level (b:Nat) (h:b < 18446744073709551616) (hf:fFin b = true):oM (fZ b) = fD b∧oE (fZ b) (-1074) = fX b:=by
 obtain ⟨j,h1,h2⟩:=fM_wrd (fS b) (fR b) (fR_fin b hf)
 rw [b_wrd b h] at h1 h2
 have h3:=oM_scale (fM b) j (-1074)
 rw [h2,sg_pv,← h1] at h3
 exact h3
theorem rv_inf:rv 9218868437227405312 = 2 ^ 2098:=by decide +kernel
theorem pv_abs (n:Bool) (r:Nat):(pv n r).natAbs = rv r:=by unfold pv;split <;> omega
theorem fZ_abs (b:Nat):(fZ b).natAbs = rv (fR b):=pv_abs _ _
theorem fZ_lt (b:Nat) (hf:fFin b = true):(fZ b).natAbs < 2 ^ 2098:=by
 rw [fZ_abs,← rv_inf];exact rv_lt (fR_fin b hf)
def aZ (a b:Nat):Int:=fZ a+fZ b
def aV (a b:Nat):Nat :=
 if fK a = 4 ∨ fK b = 4 then 9221120237041090560
 else if fK a = 3 then (if fK b = 3∧a ≠ b then 9221120237041090560 else a)
 else if fK b = 3 then b
 else if aZ a b = 0 then (if (fS a && fS b) = true then 9223372036854775808 else 0)
 else wrd (decide (aZ a b < 0)) (rnd (aZ a b).natAbs (-1074))
def aF (a b:Nat):Int :=
 if fK a = 4 ∨ fK b = 4 then 0
 else if fK a = 3 then (if fK b = 3∧a ≠ b then 16 else 0)
 else if fK b = 3 then 0
 else if aZ a b = 0 then 0
 else rflag (oM (aZ a b)).natAbs (oE (aZ a b) (-1074))
theorem p2098:(2:Nat) ^ 2098+2 ^ 2098 = 2 ^ 2099:=by decide +kernel
theorem fZ_Lvl (b:Nat) (hf:fFin b = true):Lvl (-1074) 2099 (fZ b):=by
 have h1:=fZ_lt b hf
 have h2:=p2098
 have h3:=Nat.two_pow_pos 2098
 generalize (2:Nat) ^ 2098 = P at *
 exact ⟨by rw [← h2];omega,by decide,by decide,by decide⟩
theorem aZ_Lvl (a b:Nat) (ha:fFin a = true) (hb:fFin b = true):Lvl (-1074) 2099 (fZ a+fZ b):=by
 have h1:=fZ_lt a ha
 have h4:=fZ_lt b hb
 have h2:=p2098
 generalize (2:Nat) ^ 2098 = P at *
 exact ⟨by rw [← h2];omega,by decide,by decide,by decide⟩
theorem wrd_lt (n:Bool) (r:Nat) (h:r < 9223372036854775808):wrd n r < 18446744073709551616:=by unfold wrd;split <;> omega
theorem aV_lt (a b:Nat) (ha:a < 18446744073709551616) (hb:b < 18446744073709551616):aV a b < 18446744073709551616:=by
 unfold aV
 split
 ·omega
 ·split
  ·split <;> omega
  ·split
   ·omega
   ·split
    ·split <;> omega
    ·have:=rnd_le (aZ a b).natAbs (-1074)
     exact wrd_lt _ _ (by omega)
theorem add_f (a b:Nat) (a3:fK a ≠ 3) (a4:fK a ≠ 4) (b3:fK b ≠ 3) (b4:fK b ≠ 4) :
  aV a b = (if aZ a b = 0 then (if (fS a && fS b) = true then 9223372036854775808 else 0) else wrd (decide (aZ a b < 0)) (rnd (aZ a b).natAbs (-1074)))∧aF a b = (if aZ a b = 0 then 0 else rflag (oM (aZ a b)).natAbs (oE (aZ a b) (-1074))):=by
 have h:¬ (fK a = 4 ∨ fK b = 4):=by omega
 unfold aV aF
 simp only [if_neg h,if_neg a3,if_neg b3,and_self]
theorem rnd_0 (E:Int):rnd 0 E = 0:=by unfold rnd;exact if_pos rfl
end Go.Proofs.YtcbcmlaogehimaaGreatDoor
namespace Go.Proofs.YtcbcmlaogehimaaGreatDoor
open Go.RowKit
theorem fK_rungs (b:Nat):(fK b = 4 ↔ 9218868437227405312 < fR b)∧(fK b = 3 ↔ fR b = 9218868437227405312)∧(fFin b = true ↔ fR b < 9218868437227405312):=by
 have h:=fR_lt b
 have hF:fF b = fR b % 4503599627370496:=by unfold fF fR;omega
 have hP:fP b = fR b / 4503599627370496:=rfl
 unfold fK fFin
 rw [hF,hP]
 generalize fR b = r at *
 refine ⟨?_,?_,?_⟩
 ·split
  ·split <;> constructor <;> intro _ <;> omega
  ·split
   ·split <;> constructor <;> intro _ <;> omega
   ·constructor <;> intro _ <;> omega
 ·split
  ·split <;> constructor <;> intro _ <;> omega
  ·split
   ·split <;> constructor <;> intro _ <;> omega
   ·constructor <;> intro _ <;> omega
 ·rw [decide_eq_true_iff];omega
theorem fin_of (b:Nat) (h3:fK b ≠ 3) (h4:fK b ≠ 4):fFin b = true:=by
 rcases fK_cases b with ⟨_,h | h⟩ | ⟨h,_⟩
 ·exact absurd h h3
 ·exact absurd h h4
 ·exact h
end Go.Proofs.YtcbcmlaogehimaaGreatDoor
namespace Go.Proofs.YtcbcmlaogehimaaGreatDoor
open Go.RowKit
theorem fin_kind {b:Nat} (hf:fFin b = true):fK b ≠ 3∧fK b ≠ 4:=by
 rcases fK_cases b with ⟨h,_⟩ | ⟨_,h⟩
 ·rw [hf] at h;cases h
 ·omega
end Go.Proofs.YtcbcmlaogehimaaGreatDoor
namespace Go.Proofs.YtcbcmlaogehimaaGreatDoor
open Go.RowKit
theorem abs_plus (a:Nat) (h:fS a = false) (ha:a < 18446744073709551616):fR a = a:=by
 have:=of_decide_eq_false h
 unfold fR;omega
theorem abs_minus (a:Nat) (h:fS a = true) (ha:a < 18446744073709551616):fR a = fN a:=by
 have:=of_decide_eq_true h
 unfold fR fN;rw [if_pos this];omega
theorem cabs_any (a:Nat) (w:World) (ha:a < 18446744073709551616) :
  Calls Tryz.prog 102 #[.int .u64 a] w fun e w'=>e = .returned (.int .u64 (fR a:Nat))∧Below w.heap.size w w':=by
 have K1:=hide (fun w'=>ssign_any a w' ha)
 have K2:=hide (fun w'=>sminus_any a w' ha)
 cases hs:fS a
 ·rw [hs] at K1
  rw [abs_plus a hs ha]
  clear hs ha K2
  go_enter Tryz.func102,Tryz.ntmps102
  go_wp2_with fail
  refine (uH K1 _).mono ?_
  rintro e w1 ⟨rfl,hb1⟩
  clear K1
  go_wp2
  go_ret
  exact ⟨rfl,hb1⟩
 ·rw [hs] at K1
  rw [abs_minus a hs ha]
  clear hs ha
  generalize fN a = q at *
  go_enter Tryz.func102,Tryz.ntmps102
  go_wp2_with fail
  refine (uH K1 _).mono ?_
  rintro e w1 ⟨rfl,hb1⟩
  clear K1
  go_wp2_with fail
  refine (uH K2 _).mono ?_
  rintro e w2 ⟨rfl,rfl⟩
  clear K2
  go_wp2
  go_ret
  exact ⟨rfl,hb1⟩
def pl (a:Nat):Int:=if fS a = true then -(fR a:Int) else (fR a:Int)
theorem place_of (a r:Nat) (s:Bool) (w:World) (hr:r < 9223372036854775808)
  (C1:∀ w',Calls Tryz.prog 102 #[.int .u64 a] w' fun e w''=>e = .returned (.int .u64 (r:Nat))∧Below w'.heap.size w' w'')
  (C2:∀ w',Calls Tryz.prog 161 #[.int .u64 a] w' fun e w''=>e = .returned (.bool s)∧Below w'.heap.size w' w'') :
  Calls Tryz.prog 199 #[.int .u64 a] w fun e w'=>e = .returned (.int .i64 (if s = true then -(r:Int) else (r:Int)))∧Below w.heap.size w w':=by
 have K1:=hide C1;have K2:=hide C2
 have h1:IntKind.i64.wrap (r:Int) = (r:Int):=by simp only [IntKind.wrap_i64];omega
 have h2:IntKind.i64.wrap (-(r:Int)) = -(r:Int):=by simp only [IntKind.wrap_i64];omega
 clear C1 C2
 cases s
 ·go_enter Tryz.func199,Tryz.ntmps199
  go_wp2_with fail
  refine (uH K1 _).mono ?_
  rintro e w1 ⟨rfl,hb1⟩
  have B1:=hide hb1
  clear K1 hb1
  go_wp2_with fail
  refine (uH K2 _).mono ?_
  rintro e w2 ⟨rfl,hb1⟩
  have B2:=hide ((uH B1).trans (hb1.mono (uH B1).size))
  clear K2 hb1
  go_wp2
  go_ret
  exact ⟨rfl,uH B2⟩
 ·go_enter Tryz.func199,Tryz.ntmps199
  go_wp2_with fail
  refine (uH K1 _).mono ?_
  rintro e w1 ⟨rfl,hb1⟩
  have B1:=hide hb1
  clear K1 hb1
  go_wp2_with fail
  refine (uH K2 _).mono ?_
  rintro e w2 ⟨rfl,hb1⟩
  have B2:=hide ((uH B1).trans (hb1.mono (uH B1).size))
  clear K2 hb1
  go_wp2
  go_ret
  exact ⟨rfl,uH B2⟩
theorem place_any (a:Nat) (w:World) (ha:a < 18446744073709551616) :
  Calls Tryz.prog 199 #[.int .u64 a] w fun e w'=>e = .returned (.int .i64 (pl a))∧Below w.heap.size w w' :=
 place_of a (fR a) (fS a) w (fR_lt a) (fun w'=>cabs_any a w' ha) (fun w'=>ssign_any a w' ha)
theorem isNaNl_any (a:Int) (w:World):Calls Tryz.prog 230 #[.int .i64 a] w fun e w'=>e = .returned (.bool false)∧w = w':=by
 go_enter Tryz.func230,Tryz.ntmps230
 go_wp2
 go_ret
 exact ⟨rfl,rfl⟩
theorem cmpl_any (a b:Int) (w:World):Calls Tryz.prog 198 #[.int .i64 a,.int .i64 b] w fun e w'=>e = .returned (.int .i64 (cmpI a b))∧w = w':=by
 have HE:Hid (cmpI a b = if a < b then -1 else if b < a then 1 else 0):=rfl
 generalize cmpI a b = c at *
 rcases (show a < b ∨ b < a ∨ a = b by omega) with h | h | h
 ·go_enter Tryz.func198,Tryz.ntmps198
  go_wp2_with (go_at_call 230;refine (isNaNl_any _ _).mono ?_;rintro e w' ⟨rfl,rfl⟩)
  go_ret
  exact ⟨ret_int (by rw [HE.out];simp [h]),rfl⟩
 ·have h':¬ a < b:=by omega
  go_enter Tryz.func198,Tryz.ntmps198
  go_wp2_with (go_at_call 230;refine (isNaNl_any _ _).mono ?_;rintro e w' ⟨rfl,rfl⟩)
  go_ret
  exact ⟨ret_int (by rw [HE.out];simp [h,h']),rfl⟩
 ·subst h
  go_enter Tryz.func198,Tryz.ntmps198
  go_wp2_with (go_at_call 230;refine (isNaNl_any _ _).mono ?_;rintro e w' ⟨rfl,rfl⟩)
  go_ret
  exact ⟨ret_int (by rw [HE.out];simp),rfl⟩
def cO (a b:Nat):Int:=if fK a = 4 ∨ fK b = 4 then 0 else cmpI (fZ a) (fZ b)
def cB (a b:Nat):Bool:=if fK a = 4 ∨ fK b = 4 then false else true
theorem rv8_lt {r s:Nat} (h:r < s):rv r < rv s:=Nat.lt_of_lt_of_le (rv_succ r) (rv_mono h)
theorem rv_pos {r:Nat} (h:0 < r):0 < rv r:=by have:=rv8_lt h;rw [rv_zero] at this;exact this
theorem cmpI8_lt {a b:Int} (h:a < b):cmpI a b = -1:=by unfold cmpI;rw [if_pos h]
theorem cmpI8_gt {a b:Int} (h:b < a):cmpI a b = 1:=by unfold cmpI;rw [if_neg (by omega),if_pos h]
theorem cmpI8_eq {a b:Int} (h:a = b):cmpI a b = 0:=by unfold cmpI;rw [if_neg (by omega),if_neg (by omega)]
theorem pv_pl_lt {n m:Bool} {r s:Nat} (h:(if n = true then -(r:Int) else (r:Int)) < (if m = true then -(s:Int) else (s:Int))):pv n r < pv m s:=by
 have z:rv 0 = 0:=rv_zero
 have l1:r < s→rv r < rv s:=rv8_lt
 have l2:s < r→rv s < rv r:=rv8_lt
 have p1:0 < r→0 < rv r:=rv_pos
 have p2:0 < s→0 < rv s:=rv_pos
 unfold pv
 cases n <;> cases m <;> simp only [if_true,if_false,Bool.false_eq_true] at h ⊢ <;> omega
theorem pl_cmp (a b:Nat):cmpI (pl a) (pl b) = cmpI (fZ a) (fZ b):=by
 have h1:pl a < pl b→fZ a < fZ b:=fun h=>pv_pl_lt h
 have h2:pl b < pl a→fZ b < fZ a:=fun h=>pv_pl_lt h
 rcases (show pl a < pl b ∨ pl b < pl a ∨ pl a = pl b by omega) with h | h | h
 ·rw [cmpI8_lt h,cmpI8_lt (h1 h)]
 ·rw [cmpI8_gt h,cmpI8_gt (h2 h)]
 ·have h3:fZ a = fZ b:=by
   unfold pl at h
   unfold fZ pv
   cases ha:fS a <;> cases hb:fS b <;> rw [ha,hb] at h <;> simp only [if_true,if_false,Bool.false_eq_true] at h ⊢
   ·rw [show fR a = fR b by omega]
   ·rw [show fR a = 0 by omega,show fR b = 0 by omega,rv_zero];rfl
   ·rw [show fR a = 0 by omega,show fR b = 0 by omega,rv_zero];rfl
   ·rw [show fR a = fR b by omega]
  rw [cmpI8_eq h,cmpI8_eq h3]
theorem order_n1 (a b:Nat) (w:World)
  (C1:∀ w',Calls Tryz.prog 164 #[.int .u64 a] w' fun r w''=>r = .returned (.int .i64 4)∧Below w'.heap.size w' w'') :
  Calls Tryz.prog 160 #[.int .u64 a,.int .u64 b] w fun r w'=>r = .returned (.tuple #[.int .i64 0,.bool false])∧Below w.heap.size w w':=by
 have K1:=hide C1
 clear C1
 go_enter Tryz.func160,Tryz.ntmps160
 go_wp2_with fail
 refine (uH K1 _).mono ?_
 rintro e w1 ⟨rfl,hb1⟩
 clear K1
 go_wp2
 exact bodyPost_ret (v:=.tuple #[.int .i64 0,.bool false]) (by simp [results,Tryz.results160,go_sem]) rfl ⟨rfl,hb1⟩
theorem order_n2 (a b:Nat) (ka:Int) (w:World) (h4:(ka == 4) = false)
  (C1:∀ w',Calls Tryz.prog 164 #[.int .u64 a] w' fun r w''=>r = .returned (.int .i64 ka)∧Below w'.heap.size w' w'')
  (C2:∀ w',Calls Tryz.prog 164 #[.int .u64 b] w' fun r w''=>r = .returned (.int .i64 4)∧Below w'.heap.size w' w'') :
  Calls Tryz.prog 160 #[.int .u64 a,.int .u64 b] w fun r w'=>r = .returned (.tuple #[.int .i64 0,.bool false])∧Below w.heap.size w w':=by
 have K1:=hide C1;have K2:=hide C2
 clear C1 C2
 go_enter Tryz.func160,Tryz.ntmps160
 go_wp2_with fail
 refine (uH K1 _).mono ?_
 rintro e w1 ⟨rfl,hb1⟩
 clear K1
 have B1:=hide hb1
 clear hb1
 go_wp2_with fail
 refine (uH K2 _).mono ?_
 rintro e w2 ⟨rfl,hb1⟩
 have B2:=hide ((uH B1).trans (hb1.mono (uH B1).size))
 clear hb1 K2
 go_wp2
 exact bodyPost_ret (v:=.tuple #[.int .i64 0,.bool false]) (by simp [results,Tryz.results160,go_sem]) rfl ⟨rfl,uH B2⟩
theorem order_f (a b:Nat) (ka kb x y o:Int) (w:World) (h4:(ka == 4) = false) (g4:(kb == 4) = false)
  (C1:∀ w',Calls Tryz.prog 164 #[.int .u64 a] w' fun r w''=>r = .returned (.int .i64 ka)∧Below w'.heap.size w' w'')
  (C2:∀ w',Calls Tryz.prog 164 #[.int .u64 b] w' fun r w''=>r = .returned (.int .i64 kb)∧Below w'.heap.size w' w'')
  (C3:∀ w',Calls Tryz.prog 199 #[.int .u64 a] w' fun r w''=>r = .returned (.int .i64 x)∧Below w'.heap.size w' w'')
  (C4:∀ w',Calls Tryz.prog 199 #[.int .u64 b] w' fun r w''=>r = .returned (.int .i64 y)∧Below w'.heap.size w' w'')
  (C5:∀ w',Calls Tryz.prog 198 #[.int .i64 x,.int .i64 y] w' fun r w''=>r = .returned (.int .i64 o)∧w' = w'') :
  Calls Tryz.prog 160 #[.int .u64 a,.int .u64 b] w fun r w'=>r = .returned (.tuple #[.int .i64 o,.bool true])∧Below w.heap.size w w':=by
 have K1:=hide C1;have K2:=hide C2;have K3:=hide C3;have K4:=hide C4;have K5:=hide C5
 clear C1 C2 C3 C4 C5
 go_enter Tryz.func160,Tryz.ntmps160
 go_wp2_with fail
 refine (uH K1 _).mono ?_
 rintro e w1 ⟨rfl,hb1⟩
 have B1:=hide hb1
 clear hb1 K1
 go_wp2_with fail
 refine (uH K2 _).mono ?_
 rintro e w2 ⟨rfl,hb1⟩
 have B2:=hide ((uH B1).trans (hb1.mono (uH B1).size))
 clear hb1 K2
 go_wp2_with fail
 refine (uH K3 _).mono ?_
 rintro e w3 ⟨rfl,hb1⟩
 have B3:=hide ((uH B2).trans (hb1.mono (uH B2).size))
 clear hb1 K3
 go_wp2_with fail
 refine (uH K4 _).mono ?_
 rintro e w4 ⟨rfl,hb1⟩
 have B4:=hide ((uH B3).trans (hb1.mono (uH B3).size))
 clear hb1 K4
 go_wp2_with fail
 refine (uH K5 _).mono ?_
 rintro e w5 ⟨rfl,rfl⟩
 clear K5
 go_wp2
 exact bodyPost_ret (v:=.tuple #[.int .i64 o,.bool true]) (by simp [results,Tryz.results160,go_sem]) rfl ⟨rfl,uH B4⟩
theorem corder_any (a b:Nat) (w:World) (ha:a < 18446744073709551616) (hb:b < 18446744073709551616) :
  Calls Tryz.prog 160 #[.int .u64 a,.int .u64 b] w fun r w'=>r = .returned (.tuple #[.int .i64 (cO a b),.bool (cB a b)])∧Below w.heap.size w w':=by
 have C1:=fun w'=>kind_any a w' ha
 have C2:=fun w'=>kind_any b w' hb
 unfold cO cB
 by_cases a4:fK a = 4
 ·rw [if_pos (Or.inl a4),if_pos (Or.inl a4)]
  rw [a4] at C1
  exact order_n1 a b w C1
 by_cases b4:fK b = 4
 ·rw [if_pos (Or.inr b4),if_pos (Or.inr b4)]
  rw [b4] at C2
  exact order_n2 a b _ w (by simp [a4]) C1 C2
 have h:¬ (fK a = 4 ∨ fK b = 4):=fun h=>h.elim a4 b4
 rw [if_neg h,if_neg h,← pl_cmp]
 exact order_f a b _ _ _ _ _ w (by simp [a4]) (by simp [b4]) C1 C2 (fun w'=>place_any a w' ha) (fun w'=>place_any b w' hb) (fun w'=>cmpl_any _ _ w')
theorem less_of (a b:Nat) (o:Int) (t l q:Bool) (w:World) (hw:(o = 0∧t = false∧l = false∧q = false) ∨ (o = -1∧t = true∧l = true∧q = false) ∨ (o = 0∧t = true∧l = false∧q = true) ∨ (o = 1∧t = true∧l = false∧q = false))
  (C1:∀ w',Calls Tryz.prog 160 #[.int .u64 a,.int .u64 b] w' fun r w''=>r = .returned (.tuple #[.int .i64 o,.bool t])∧Below w'.heap.size w' w'') :
  Calls Tryz.prog 101 #[.int .u64 a,.int .u64 b] w fun r w'=>r = .returned (.bool l)∧Below w.heap.size w w':=by
 have K1:=hide C1
 clear C1
 rcases hw with ⟨rfl,rfl,rfl,rfl⟩ | ⟨rfl,rfl,rfl,rfl⟩ | ⟨rfl,rfl,rfl,rfl⟩ | ⟨rfl,rfl,rfl,rfl⟩
 all_goals
  go_enter Tryz.func101,Tryz.ntmps101
  go_wp2_with fail
  refine (uH K1 _).mono ?_
  rintro e w1 ⟨rfl,hb1⟩
  clear K1
  go_wp2
  go_ret
  exact ⟨rfl,hb1⟩
def cM (a b:Nat) (l t:Bool):Nat:=if t = false then 9221120237041090560 else if l = true then b else a
theorem max_of (a b:Nat) (o:Int) (t l q:Bool) (w:World) (hw:(o = 0∧t = false∧l = false∧q = false) ∨ (o = -1∧t = true∧l = true∧q = false) ∨ (o = 0∧t = true∧l = false∧q = true) ∨ (o = 1∧t = true∧l = false∧q = false))
  (C1:∀ w',Calls Tryz.prog 160 #[.int .u64 a,.int .u64 b] w' fun r w''=>r = .returned (.tuple #[.int .i64 o,.bool t])∧Below w'.heap.size w' w'') :
  Calls Tryz.prog 158 #[.int .u64 a,.int .u64 b] w fun r w'=>r = .returned (.int .u64 (cM a b l t:Nat))∧Below w.heap.size w w':=by
 have K1:=hide C1
 clear C1
 unfold cM
 rcases hw with ⟨rfl,rfl,rfl,rfl⟩ | ⟨rfl,rfl,rfl,rfl⟩ | ⟨rfl,rfl,rfl,rfl⟩ | ⟨rfl,rfl,rfl,rfl⟩
 all_goals
  simp only [if_true,if_false,Bool.false_eq_true,Bool.true_eq_false]
  go_enter Tryz.func158,Tryz.ntmps158
  go_wp2_with fail
  refine (uH K1 _).mono ?_
  rintro e w1 ⟨rfl,hb1⟩
  clear K1
  go_wp2
  go_ret
  exact ⟨rfl,hb1⟩
theorem rmax_of (a b:Nat) (o:Int) (t l q:Bool) (w:World) (hw:(o = 0∧t = false∧l = false∧q = false) ∨ (o = -1∧t = true∧l = true∧q = false) ∨ (o = 0∧t = true∧l = false∧q = true) ∨ (o = 1∧t = true∧l = false∧q = false))
  (C1:∀ w',Calls Tryz.prog 143 #[.int .u64 a,.int .u64 b] w' fun r w''=>r = .returned (.tuple #[.int .i64 o,.bool t])∧Below w'.heap.size w' w'') :
  Calls Tryz.prog 141 #[.int .u64 a,.int .u64 b] w fun r w'=>r = .returned (.int .u64 (cM a b l t:Nat))∧Below w.heap.size w w':=by
 have K1:=hide C1
 clear C1
 unfold cM
 rcases hw with ⟨rfl,rfl,rfl,rfl⟩ | ⟨rfl,rfl,rfl,rfl⟩ | ⟨rfl,rfl,rfl,rfl⟩ | ⟨rfl,rfl,rfl,rfl⟩
 all_goals
  simp only [if_true,if_false,Bool.false_eq_true,Bool.true_eq_false]
  go_enter Tryz.func141,Tryz.ntmps141
  go_wp2_with fail
  refine (uH K1 _).mono ?_
  rintro e w1 ⟨rfl,hb1⟩
  clear K1
  go_wp2
  go_ret
  exact ⟨rfl,hb1⟩
end Go.Proofs.YtcbcmlaogehimaaGreatDoor
