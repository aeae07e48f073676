/- Part 13 of the texts. -/
import Derived.Test.YtdhmglmccafbnaaGreatDoorPartv12
import Derived.Test.YtdhmglmccafbnaaGreatDoorPartv11
import Derived.Test.YtdhmglmccafbnaaGreatDoorPartv10
import Ieee.Arith
namespace Go.Proofs.YtdhmglmccafbnaaGreatDoor
theorem fS_wrd (n:Bool) (s:Nat) (h:s < 9223372036854775808):fS (wrd n s) = n:=by
 unfold fS
 cases n
 ·rw [wrd_false];exact decide_eq_false (by omega)
 ·rw [wrd_true];exact decide_eq_true (by omega)
theorem fP_wrd (n:Bool) (s:Nat) (h:s < 9223372036854775808):fP (wrd n s) = s / 4503599627370496:=by
 unfold fP
 cases n
 ·rw [wrd_false];omega
 ·rw [wrd_true];omega
theorem fF_wrd (n:Bool) (s:Nat) (_h:s < 9223372036854775808):fF (wrd n s) = s % 4503599627370496:=by
 unfold fF
 cases n
 ·rw [wrd_false]
 ·rw [wrd_true];omega
theorem fM_wrd (n:Bool) (s:Nat) (h:s < 9218868437227405312):∃ j:Nat,fE (wrd n s) = -1074+(j:Int)∧fM (wrd n s) * 2 ^ j = sg n (rv s):=by
 have e1:=fP_wrd n s (by omega)
 have e2:=fF_wrd n s (by omega)
 have e3:=fS_wrd n s (by omega)
 unfold fM fE fA rv
 rw [e1,e2,e3]
 by_cases c1:s < 4503599627370496
 ·rw [if_pos (by omega),if_pos (by omega),if_pos c1]
  refine ⟨0,by simp,?_⟩
  rw [Nat.mod_eq_of_lt c1]
  simp
 ·rw [if_neg (by omega),if_neg (by omega),if_neg c1]
  refine ⟨s / 4503599627370496 - 1,by omega,?_⟩
  rw [Nat.add_comm 4503599627370496]
  generalize s % 4503599627370496+4503599627370496 = m
  generalize s / 4503599627370496 - 1 = j
  unfold sg
  cases n
  ·simp
  ·simp [Int.neg_mul]
end Go.Proofs.YtdhmglmccafbnaaGreatDoor
namespace Go.Proofs.YtdhmglmccafbnaaGreatDoor
open Go.RowKit
def pv (n:Bool) (r:Nat):Int:=if n = true then -(rv r:Int) else (rv r:Int)
theorem dbl_sw:Ieee.double.signWeight = 9223372036854775808:=by decide
theorem dbl_bin:Ieee.double.binade = 4503599627370496:=by decide
theorem dbl_inf:Ieee.double.infRung = 9218868437227405312:=by decide
theorem dbl_lp:Ieee.double.leastPlace = -1074:=by decide
theorem wrd_parts (n:Bool) (r:Nat) (h:r < 9223372036854775808):(wrd n r / 9223372036854775808 % 2 == 1) = n∧wrd n r % 9223372036854775808 = r:=by
 cases n
 ·rw [wrd_false];exact ⟨by simp;omega,by omega⟩
 ·rw [wrd_true];exact ⟨by simp;omega,by omega⟩
theorem read_wrd (n:Bool) (r:Nat) (h:r≤9218868437227405312) :
  (r < 9218868437227405312∧∃ (m:Nat) (k:Nat),Ieee.double.read (wrd n r) = .number n m (-1074+(k:Int))∧m * 2 ^ k = rv r) ∨ (r = 9218868437227405312∧Ieee.double.read (wrd n r) = .infinity n):=by
 obtain ⟨h1,h2⟩:=wrd_parts n r (by omega)
 unfold Ieee.Format.read
 rw [dbl_sw,dbl_bin,dbl_inf,dbl_lp]
 simp only [h1,h2]
 by_cases c1:r < 4503599627370496
 ·left
  refine ⟨by omega,r,0,?_,?_⟩
  ·rw [if_pos c1];rfl
  ·unfold rv;rw [if_pos c1];simp
 ·by_cases c2:r < 9218868437227405312
  ·left
   refine ⟨c2,_,_,by rw [if_neg c1,if_pos c2],?_⟩
   unfold rv;rw [if_neg c1]
  ·right
   have:r = 9218868437227405312:=by omega
   exact ⟨this,by rw [if_neg c1,if_neg c2,if_pos this]⟩
theorem signed_pv (n:Bool) (m k u:Nat) (r:Nat) (h:m * 2 ^ k = rv r) (hu:u≤k):Ieee.signed n m u * 2 ^ (k - u) = pv n r:=by
 have h1:m <<< u * 2 ^ (k - u) = rv r:=by
  rw [Nat.shiftLeft_eq,Nat.mul_assoc,← Nat.pow_add,show u+(k - u) = k by omega];exact h
 have h2:((m <<< u:Nat):Int) * 2 ^ (k - u) = (rv r:Int):=by
  rw [← h1,Int.natCast_mul,Int.natCast_pow];rfl
 unfold Ieee.signed pv
 cases n
 ·simp only [Bool.false_eq_true,if_false];exact h2
 ·simp only [if_true];rw [Int.neg_mul,h2]
theorem compare_scale (a b:Int) (k:Nat):compare (a * 2 ^ k) (b * 2 ^ k) = compare a b:=by
 have hp:(0:Int) < 2 ^ k:=Int.pow_pos (by decide)
 rcases Int.lt_trichotomy a b with h | h | h
 ·have h1:a * 2 ^ k < b * 2 ^ k:=Int.mul_lt_mul_of_pos_right h hp
  rw [Int.compare_eq_lt.2 h,Int.compare_eq_lt.2 h1]
 ·subst h;simp
 ·have h1:b * 2 ^ k < a * 2 ^ k:=Int.mul_lt_mul_of_pos_right h hp
  rw [Int.compare_eq_gt.2 h,Int.compare_eq_gt.2 h1]
theorem order_num (n m:Bool) (r s a b k j:Nat) (h1:a * 2 ^ k = rv r) (h2:b * 2 ^ j = rv s) :
  Ieee.Datum.order (.number n a (-1074+(k:Int))) (.number m b (-1074+(j:Int))) = some (compare (pv n r) (pv m s)):=by
 unfold Ieee.Datum.order
 simp only
 congr 1
 generalize hc:min k j = c
 have e1:(-1074+(k:Int) - min (-1074+(k:Int)) (-1074+(j:Int))).toNat = k - c:=by omega
 have e2:(-1074+(j:Int) - min (-1074+(k:Int)) (-1074+(j:Int))).toNat = j - c:=by omega
 rw [e1,e2,← compare_scale _ _ c]
 have s1:=signed_pv n a k (k - c) r h1 (by omega)
 have s2:=signed_pv m b j (j - c) s h2 (by omega)
 rw [show k - (k - c) = c by omega] at s1
 rw [show j - (j - c) = c by omega] at s2
 rw [s1,s2]
theorem rv_lt {r s:Nat} (h:r < s):rv r < rv s:=Nat.lt_of_lt_of_le (rv_succ r) (rv_mono h)
theorem order_wrd (n m:Bool) (r s:Nat) (hr:r≤9218868437227405312) (hs:s≤9218868437227405312):Ieee.double.order (wrd n r) (wrd m s) = some (compare (pv n r) (pv m s)):=by
 unfold Ieee.Format.order
 rcases read_wrd n r hr with ⟨c1,a,k,e1,h1⟩ | ⟨c1,e1⟩
 ·rcases read_wrd m s hs with ⟨c2,b,j,e2,h2⟩ | ⟨c2,e2⟩
  ·rw [e1,e2];exact order_num n m r s a b k j h1 h2
  ·rw [e1,e2]
   have hlt:rv r < rv s:=rv_lt (by omega)
   have hn:Ieee.Datum.order (.number n a (-1074+(k:Int))) (.infinity m) = some (if m then .gt else .lt):=rfl
   rw [hn]
   congr 1
   unfold pv
   cases m <;> cases n <;> simp only [Bool.false_eq_true,if_true,if_false] <;> symm <;> first | exact Int.compare_eq_lt.2 (by omega) | exact Int.compare_eq_gt.2 (by omega)
 ·rcases read_wrd m s hs with ⟨c2,b,j,e2,h2⟩ | ⟨c2,e2⟩
  ·rw [e1,e2]
   have hlt:rv s < rv r:=rv_lt (by omega)
   have hn:Ieee.Datum.order (.infinity n) (.number m b (-1074+(j:Int))) = some (if n then .lt else .gt):=rfl
   rw [hn]
   congr 1
   unfold pv
   cases m <;> cases n <;> simp only [Bool.false_eq_true,if_true,if_false] <;> symm <;> first | exact Int.compare_eq_lt.2 (by omega) | exact Int.compare_eq_gt.2 (by omega)
  ·rw [e1,e2]
   have hrs:rv r = rv s:=by rw [c1,c2]
   have hpos:0 < rv s:=by have:=rv_lt (r:=0) (s:=s) (by omega);rw [rv_zero] at this;exact this
   have hn:Ieee.Datum.order (.infinity n) (.infinity m) = some (compare m.toNat n.toNat):=rfl
   rw [hn]
   congr 1
   unfold pv
   rw [hrs]
   cases n <;> cases m
   ·simp
   ·rw [if_neg (by decide),if_pos rfl]
    rw [Int.compare_eq_gt.2 (by omega)]
    decide
   ·rw [if_pos rfl,if_neg (by decide)]
    rw [Int.compare_eq_lt.2 (by omega)]
    decide
   ·simp
end Go.Proofs.YtdhmglmccafbnaaGreatDoor
namespace Go.Proofs.YtdhmglmccafbnaaGreatDoor
open Go.RowKit
theorem up_level (z lo:Int) (k:Nat) (h:z ≠ 0→lo+k≤oE z lo):up (oM z) (oE z lo) (lo+k) * 2 ^ k = z:=by
 by_cases h0:z = 0
 ·subst h0;rw [oM_zero,up_zero];simp
 ·have h1:=h h0
  conv=>rhs;rw [← oM_level z lo h0]
  unfold up
  rw [Int.mul_assoc,← Int.pow_add]
  congr 2
  omega
theorem low_level {lo:Int} {W:Nat} {z1 z2:Int} (h1:Lvl lo W z1) (h2:Lvl lo W z2) (h0:¬ (z1 = 0∧z2 = 0)) :
  ∃ k:Nat,lowE (oM z1) (oE z1 lo) (oM z2) (oE z2 lo) = lo+k∧up (oM z1) (oE z1 lo) (lo+k) * 2 ^ k = z1∧up (oM z2) (oE z2 lo) (lo+k) * 2 ^ k = z2∧oE z1 lo - (lo+k)≤16384∧oE z2 lo - (lo+k)≤16384:=by
 have b1:=h1.2.1
 have b2:=h1.2.2.1
 have b3:=h1.2.2.2
 have hb:∀ z,Lvl lo W z→(z = 0∧oM z = 0∧oE z lo = 0) ∨ (z ≠ 0∧oM z ≠ 0∧oE z lo = lo+(tz z.natAbs:Int)∧tz z.natAbs < W):=fun z hz=>by
  by_cases e:z = 0
  ·left;subst e;exact ⟨rfl,oM_zero,oE_zero _⟩
  ·right;exact ⟨e,(oM_ne z e).1,oE_ne z lo e,hz.tzs e⟩
 rcases hb z1 h1 with ⟨e1,m1,x1⟩ | ⟨e1,m1,x1,t1⟩
 ·rcases hb z2 h2 with ⟨e2,m2,x2⟩ | ⟨e2,m2,x2,t2⟩
  ·exact absurd ⟨e1,e2⟩ h0
  ·refine ⟨tz z2.natAbs,?_,up_level z1 lo _ (fun h=>absurd e1 h),up_level z2 lo _ (fun _=>by omega),by omega,by omega⟩
   unfold lowE;rw [if_pos m1];exact x2
 ·rcases hb z2 h2 with ⟨e2,m2,x2⟩ | ⟨e2,m2,x2,t2⟩
  ·refine ⟨tz z1.natAbs,?_,up_level z1 lo _ (fun _=>by omega),up_level z2 lo _ (fun h=>absurd e2 h),by omega,by omega⟩
   unfold lowE;rw [if_neg m1,if_pos m2];exact x1
  ·refine ⟨min (tz z1.natAbs) (tz z2.natAbs),?_,up_level z1 lo _ (fun _=>by omega),up_level z2 lo _ (fun _=>by omega),by omega,by omega⟩
   rw [lowE_ne _ _ _ _ m1 m2,x1,x2];omega
theorem cmpI_scale (u v:Int) (k:Nat):cmpI (u * 2 ^ k) (v * 2 ^ k) = cmpI u v:=by
 rw [cmpI_sgn,cmpI_sgn,← Int.sub_mul,sgnI_mul_pow]
theorem rcmpN {w:World} {v u:Value} {lo:Int} {W:Nat} {z1 z2:Int} (hv:IsDy w v (oM z1) (oE z1 lo)) (hu:IsDy w u (oM z2) (oE z2 lo)) (h1:Lvl lo W z1) (h2:Lvl lo W z2) :
  Calls Tryz.prog 51 #[v,u] w fun r w'=>r = .returned (.int .i64 (cmpI z1 z2))∧Below w.heap.size w w':=by
 obtain ⟨na,ao,ca,A,rfl,a1,a2,a3,a4,a5⟩:=hv.right h1.right.2
 obtain ⟨nb,bo,cb,B,rfl,b1,b2,b3,b4,b5⟩:=hu.right h2.right.2
 have:=rcompare_any na nb ao bo ca cb A B _ _ w a1 b1 (a5.trans h1.right.1) (b5.trans h2.right.1)
 rw [a3,b3] at this
 have hc:cmpV (oM z1) (oE z1 lo) (oM z2) (oE z2 lo) = cmpI z1 z2:=by
  by_cases h0:z1 = 0∧z2 = 0
  ·obtain ⟨rfl,rfl⟩:=h0
   rw [oM_zero,oE_zero];rfl
  ·obtain ⟨k,e1,e2,e3,_,_⟩:=low_level h1 h2 h0
   unfold cmpV
   rw [e1,← cmpI_scale _ _ k,e2,e3]
 rwa [hc] at this
end Go.Proofs.YtdhmglmccafbnaaGreatDoor
namespace Go.Proofs.YtdhmglmccafbnaaGreatDoor
open Go.RowKit
def fR (b:Nat):Nat:=b % 9223372036854775808
def fZ (b:Nat):Int:=pv (fS b) (fR b)
theorem b_wrd (b:Nat) (h:b < 18446744073709551616):wrd (fS b) (fR b) = b:=by
 unfold fS fR
 by_cases c:9223372036854775808≤b
 ·rw [decide_eq_true c,wrd_true];omega
 ·rw [decide_eq_false c,wrd_false];omega
theorem fR_lt (b:Nat):fR b < 9223372036854775808:=by unfold fR;omega
theorem fR_fin (b:Nat) (hf:fFin b = true):fR b < 9218868437227405312:=by
 have h1:=of_decide_eq_true hf
 unfold fP at h1
 unfold fR
 omega
theorem sg_pv (n:Bool) (s:Nat):sg n (rv s) = pv n s:=rfl
theorem fZ_level (b:Nat) (h:b < 18446744073709551616) (hf:fFin b = true):oM (fZ b) = fD b∧oE (fZ b) (-1074) = fX b:=by
 obtain ⟨j,h1,h2⟩:=fM_wrd (fS b) (fR b) (fR_fin b hf)
 rw [b_wrd b h] at h1 h2
 have h3:=oM_scale (fM b) j (-1074)
 rw [h2,sg_pv,← h1] at h3
 exact h3
theorem rv_inf:rv 9218868437227405312 = 2 ^ 2098:=by decide +kernel
theorem pv_abs (n:Bool) (r:Nat):(pv n r).natAbs = rv r:=by unfold pv;split <;> omega
theorem fZ_abs (b:Nat):(fZ b).natAbs = rv (fR b):=pv_abs _ _
theorem fZ_lt (b:Nat) (hf:fFin b = true):(fZ b).natAbs < 2 ^ 2098:=by
 rw [fZ_abs,← rv_inf];exact rv_lt (fR_fin b hf)
def aZ (a b:Nat):Int:=fZ a+fZ b
def aV (a b:Nat):Nat :=
 if fK a = 4 ∨ fK b = 4 then 9221120237041090560
 else if fK a = 3 then (if fK b = 3∧a ≠ b then 9221120237041090560 else a)
 else if fK b = 3 then b
 else if aZ a b = 0 then (if (fS a && fS b) = true then 9223372036854775808 else 0)
 else wrd (decide (aZ a b < 0)) (rnd (aZ a b).natAbs (-1074))
def aF (a b:Nat):Int :=
 if fK a = 4 ∨ fK b = 4 then 0
 else if fK a = 3 then (if fK b = 3∧a ≠ b then 16 else 0)
 else if fK b = 3 then 0
 else if aZ a b = 0 then 0
 else rflag (oM (aZ a b)).natAbs (oE (aZ a b) (-1074))
theorem p2098:(2:Nat) ^ 2098+2 ^ 2098 = 2 ^ 2099:=by decide +kernel
theorem fZ_Lvl (b:Nat) (hf:fFin b = true):Lvl (-1074) 2099 (fZ b):=by
 have h1:=fZ_lt b hf
 have h2:=p2098
 have h3:=Nat.two_pow_pos 2098
 generalize (2:Nat) ^ 2098 = P at *
 exact ⟨by rw [← h2];omega,by decide,by decide,by decide⟩
theorem aZ_Lvl (a b:Nat) (ha:fFin a = true) (hb:fFin b = true):Lvl (-1074) 2099 (fZ a+fZ b):=by
 have h1:=fZ_lt a ha
 have h4:=fZ_lt b hb
 have h2:=p2098
 generalize (2:Nat) ^ 2098 = P at *
 exact ⟨by rw [← h2];omega,by decide,by decide,by decide⟩
theorem wrd_lt (n:Bool) (r:Nat) (h:r < 9223372036854775808):wrd n r < 18446744073709551616:=by unfold wrd;split <;> omega
theorem aV_lt (a b:Nat) (ha:a < 18446744073709551616) (hb:b < 18446744073709551616):aV a b < 18446744073709551616:=by
 unfold aV
 split
 ·omega
 ·split
  ·split <;> omega
  ·split
   ·omega
   ·split
    ·split <;> omega
    ·have:=rnd_le (aZ a b).natAbs (-1074)
     exact wrd_lt _ _ (by omega)
theorem add_f (a b:Nat) (a3:fK a ≠ 3) (a4:fK a ≠ 4) (b3:fK b ≠ 3) (b4:fK b ≠ 4) :
  aV a b = (if aZ a b = 0 then (if (fS a && fS b) = true then 9223372036854775808 else 0) else wrd (decide (aZ a b < 0)) (rnd (aZ a b).natAbs (-1074)))∧aF a b = (if aZ a b = 0 then 0 else rflag (oM (aZ a b)).natAbs (oE (aZ a b) (-1074))):=by
 have h:¬ (fK a = 4 ∨ fK b = 4):=by omega
 unfold aV aF
 simp only [if_neg h,if_neg a3,if_neg b3,and_self]
theorem rnd_0 (E:Int):rnd 0 E = 0:=by unfold rnd;exact if_pos rfl
end Go.Proofs.YtdhmglmccafbnaaGreatDoor
namespace Go.Proofs.YtdhmglmccafbnaaGreatDoor
open Go.RowKit
theorem dbl_word (n:Bool) (r:Nat):Ieee.double.word n r = wrd n r:=by
 unfold Ieee.Format.word;rw [dbl_sw];unfold wrd
 cases n
 ·simp
 ·simp [Nat.add_comm]
theorem cut_even (n:Bool) (v k:Nat) (h:v ≠ 0):Ieee.Toward.even.cut n v k = cutE v k:=by
 have hb:=bl_spec v h
 have hbl:bl v = v.log2+1:=by unfold bl;rw [if_neg h]
 rw [hbl] at hb
 unfold Ieee.Toward.cut
 simp only [Nat.one_shiftLeft]
 by_cases c:k≤v.log2+2
 ·rw [Nat.min_eq_left c]
  unfold cutE
  congr 1
  generalize 2 ^ k = g
  by_cases c1:g < 2 * (v % g)
  ·simp [c1]
  ·by_cases c2:g = 2 * (v % g)∧v / g % 2 = 1
   ·rw [if_pos (Or.inr c2)]
    rw [decide_eq_false c1,Bool.false_or,beq_iff_eq.2 c2.1,beq_iff_eq.2 c2.2];rfl
   ·rw [if_neg (by rintro (h | h) <;> contradiction),decide_eq_false c1,Bool.false_or]
    have:(g == 2 * (v % g) && v / g % 2 == 1) = false:=by
     rw [Bool.eq_false_iff]
     intro h3
     rw [Bool.and_eq_true,beq_iff_eq,beq_iff_eq] at h3
     exact c2 h3
    rw [this];rfl
 ·rw [Nat.min_eq_right (by omega)]
  have g1:(2:Nat) ^ (v.log2+2) = 2 ^ (v.log2+1) * 2:=Nat.pow_succ 2 _
  have g2:(2:Nat) ^ (v.log2+2)≤2 ^ k:=pow_le2 (by omega)
  unfold cutE
  generalize (2:Nat) ^ (v.log2+2) = g at *
  generalize (2:Nat) ^ k = q at *
  have hv:v < g:=by omega
  have hq:v < q:=by omega
  rw [Nat.div_eq_of_lt hv,Nat.mod_eq_of_lt hv,Nat.div_eq_of_lt hq,Nat.mod_eq_of_lt hq,if_neg (by omega),decide_eq_false (by omega)]
  have:(g == 2 * v) = false:=by simp;omega
  rw [this];rfl
theorem cutE_zero (v:Nat):cutE v 0 = v:=by have:=cutE_whole v 0;simpa using this
theorem min_of (m k r:Nat) (h1:r = m+k * 4503599627370496) (h2:r≤9218868437227405312):min (k * 4503599627370496+m) 9218868437227405312 = r:=by omega
theorem min_inf (m k:Nat) (h1:4503599627370496≤m) (h2:2046≤k):min (k * 4503599627370496+m) 9218868437227405312 = 9218868437227405312:=by omega
theorem near_min (n:Bool) (v:Nat) (E:Int) (h:v ≠ 0):wrd n (min ((lastE v E - -1074).toNat * 4503599627370496+rndM v E) 9218868437227405312) = wrd n (rnd v E):=by
 have hM:=(rndM_bounds v E h).2.1
 have l2:=(lastE_ge v E).2.1
 have h2:=rnd_le v E
 rw [show lastE v E - -1074 = lastE v E+1074 by omega]
 by_cases ht:(bl v:Int)+E≤1024
 ·rw [min_of _ _ _ (rnd_fin v E h ht) h2]
 ·have h1:rnd v E = 9218868437227405312:=by unfold rnd;rw [if_neg h,if_pos (by omega)]
  rw [h1,min_inf _ _ (hM (by omega)) (by omega)]
theorem nearest_wrd (n:Bool) (v:Nat) (E:Int):Ieee.double.nearest n v E = wrd n (rnd v E):=by
 unfold Ieee.Format.nearest
 by_cases h:v = 0
 ·rw [if_pos h,dbl_word];unfold rnd;rw [if_pos h]
 ·rw [if_neg h]
  simp only [dbl_lp,dbl_bin,dbl_inf,dbl_word]
  have hfb:(Ieee.double.fractionBits:Int) = 52:=rfl
  rw [hfb]
  have hbl:bl v = v.log2+1:=by unfold bl;rw [if_neg h]
  have hl:max (E+(v.log2:Int) - 52) (-1074) = lastE v E:=by unfold lastE;rw [hbl];omega
  rw [hl]
  have hk:Ieee.Toward.even.cut n (v <<< (E - lastE v E).toNat) (lastE v E - E).toNat = rndM v E:=by
   unfold rndM mS
   split
   ·rename_i h1
    rw [show (lastE v E - E).toNat = 0 by omega,Nat.shiftLeft_eq]
    rw [cut_even _ _ _ (Nat.mul_ne_zero h (Nat.pos_iff_ne_zero.1 (Nat.two_pow_pos _))),cutE_zero]
   ·rename_i h1
    rw [show (E - lastE v E).toNat = 0 by omega,Nat.shiftLeft_zero,cut_even _ _ _ h,show (-(E - lastE v E)).toNat = (lastE v E - E).toNat by omega]
  rw [hk]
  exact near_min n v E h
theorem fK_rungs (b:Nat):(fK b = 4 ↔ 9218868437227405312 < fR b)∧(fK b = 3 ↔ fR b = 9218868437227405312)∧(fFin b = true ↔ fR b < 9218868437227405312):=by
 have h:=fR_lt b
 have hF:fF b = fR b % 4503599627370496:=by unfold fF fR;omega
 have hP:fP b = fR b / 4503599627370496:=rfl
 unfold fK fFin
 rw [hF,hP]
 generalize fR b = r at *
 refine ⟨?_,?_,?_⟩
 ·split
  ·split <;> constructor <;> intro _ <;> omega
  ·split
   ·split <;> constructor <;> intro _ <;> omega
   ·constructor <;> intro _ <;> omega
 ·split
  ·split <;> constructor <;> intro _ <;> omega
  ·split
   ·split <;> constructor <;> intro _ <;> omega
   ·constructor <;> intro _ <;> omega
 ·rw [decide_eq_true_iff];omega
theorem read_nan (b:Nat) (_h:b < 18446744073709551616) (hk:fK b = 4):∃ s f,Ieee.double.read b = .nan s f:=by
 have h1:=(fK_rungs b).1.1 hk
 unfold Ieee.Format.read
 rw [dbl_sw,dbl_bin,dbl_inf,dbl_lp]
 simp only
 have:b % 9223372036854775808 = fR b:=rfl
 rw [this,if_neg (by omega),if_neg (by omega),if_neg (by omega)]
 exact ⟨_,_,rfl⟩
theorem read_inf (b:Nat) (h:b < 18446744073709551616) (hk:fK b = 3):Ieee.double.read b = .infinity (fS b):=by
 have h1:=(fK_rungs b).2.1.1 hk
 rcases read_wrd (fS b) (fR b) (by omega) with ⟨c,_⟩ | ⟨_,e⟩
 ·omega
 ·rw [b_wrd b h] at e;exact e
theorem read_fin (b:Nat) (h:b < 18446744073709551616) (hk:fFin b = true):∃ (m:Nat) (k:Nat),Ieee.double.read b = .number (fS b) m (-1074+(k:Int))∧m * 2 ^ k = rv (fR b):=by
 have h1:=fR_fin b hk
 rcases read_wrd (fS b) (fR b) (by omega) with ⟨_,m,k,e,e2⟩ | ⟨c,_⟩
 ·rw [b_wrd b h] at e;exact ⟨m,k,e,e2⟩
 ·omega
theorem fin_of (b:Nat) (h3:fK b ≠ 3) (h4:fK b ≠ 4):fFin b = true:=by
 rcases fK_cases b with ⟨_,h | h⟩ | ⟨h,_⟩
 ·exact absurd h h3
 ·exact absurd h h4
 ·exact h
theorem write_inf (n:Bool):Ieee.double.write (.infinity n) = wrd n 9218868437227405312:=by
 show Ieee.double.word n Ieee.double.infRung = _
 rw [dbl_word,dbl_inf]
end Go.Proofs.YtdhmglmccafbnaaGreatDoor
namespace Go.Proofs.YtdhmglmccafbnaaGreatDoor
open Go.RowKit
theorem fR_wrd (n:Bool) (r:Nat) (h:r < 9223372036854775808):fR (wrd n r) = r:=(wrd_parts n r h).2
theorem fK_same {a b:Nat} (h:fR a = fR b):fK a = fK b:=by
 have hF:∀ b,fF b = fR b % 4503599627370496:=fun b=>by unfold fF fR;omega
 have hP:∀ b,fP b = fR b / 4503599627370496:=fun b=>rfl
 unfold fK
 rw [hF,hP,hF b,hP b,h]
theorem fin_kind {b:Nat} (hf:fFin b = true):fK b ≠ 3∧fK b ≠ 4:=by
 rcases fK_cases b with ⟨h,_⟩ | ⟨_,h⟩
 ·rw [hf] at h;cases h
 ·omega
theorem order_bits (a b:Nat) (ha:a < 18446744073709551616) (hb:b < 18446744073709551616) (na:fK a ≠ 4) (nb:fK b ≠ 4):Ieee.double.order a b = some (compare (fZ a) (fZ b)):=by
 have h1:fR a≤9218868437227405312:=Nat.le_of_not_lt fun h=>na ((fK_rungs a).1.2 h)
 have h2:fR b≤9218868437227405312:=Nat.le_of_not_lt fun h=>nb ((fK_rungs b).1.2 h)
 have:=order_wrd (fS a) (fS b) (fR a) (fR b) h1 h2
 rw [b_wrd a ha,b_wrd b hb] at this
 exact this
theorem order_nan (a b:Nat) (ha:a < 18446744073709551616) (hb:b < 18446744073709551616) (h:fK a = 4 ∨ fK b = 4):Ieee.double.order a b = none:=by
 unfold Ieee.Format.order
 rcases h with h | h
 ·obtain ⟨s,f,e⟩:=read_nan a ha h
  rw [e];rfl
 ·obtain ⟨s,f,e⟩:=read_nan b hb h
  rw [e];cases Ieee.double.read a <;> rfl
end Go.Proofs.YtdhmglmccafbnaaGreatDoor
namespace Go.Proofs.YtdhmglmccafbnaaGreatDoor
def stk (N d:Nat):Nat:=2 * (N / d)+(if N % d = 0 then 0 else 1)
def cutQ (N D:Nat):Nat:=N / D+(if D < 2 * (N % D) ∨ (D = 2 * (N % D)∧N / D % 2 = 1) then 1 else 0)
theorem cutQ_scale (N D i:Nat):cutQ (N * 2 ^ i) (D * 2 ^ i) = cutQ N D:=by
 have hp:0 < 2 ^ i:=Nat.two_pow_pos _
 unfold cutQ
 rw [Nat.mul_div_mul_right _ _ hp,Nat.mul_mod_mul_right]
 have h1:(D * 2 ^ i < 2 * (N % D * 2 ^ i)) ↔ D < 2 * (N % D):=by
  rw [← Nat.mul_assoc];exact Nat.mul_lt_mul_right hp
 have h2:(D * 2 ^ i = 2 * (N % D * 2 ^ i)) ↔ D = 2 * (N % D):=by
  rw [← Nat.mul_assoc];exact ⟨fun h=>Nat.eq_of_mul_eq_mul_right hp h,fun h=>by rw [← h]⟩
 simp only [h1,h2]
theorem stk_cut (N d k:Nat) (hd:0 < d) (hk:1≤k):cutE (stk N d) (k+1) = cutQ N (d * 2 ^ k):=by
 obtain ⟨j,rfl⟩:∃ j,k = j+1:=⟨k - 1,by omega⟩
 have hN:=Nat.div_add_mod N d
 have hr:=Nat.mod_lt N hd
 have hg:0 < 2 ^ j:=Nat.two_pow_pos _
 have e1:(2:Nat) ^ (j+1) = 2 * 2 ^ j:=by rw [Nat.pow_succ,Nat.mul_comm]
 have e2:(2:Nat) ^ (j+1+1) = 2 * (2 * 2 ^ j):=by rw [Nat.pow_succ,e1,Nat.mul_comm]
 have ht:(if N % d = 0 then 0 else 1)≤1:=by split <;> omega
 have htz:(if N % d = 0 then 0 else 1) = 0 ↔ N % d = 0:=by split <;> simp_all
 unfold cutE cutQ stk
 rw [e2,e1]
 generalize (2:Nat) ^ j = g at *
 generalize (if N % d = 0 then 0 else 1) = t at *
 have hq:=Nat.div_add_mod (N / d) (2 * g)
 have ha:=Nat.mod_lt (N / d) (show 0 < 2 * g by omega)
 have dv:N / (d * (2 * g)) = N / d / (2 * g):=(Nat.div_div_eq_div_mul N d (2 * g)).symm
 have md:N % (d * (2 * g)) = d * (N / d % (2 * g))+N % d:=by
  rw [Nat.mod_mul];omega
 rw [dv,md]
 generalize N % d = r at *
 generalize N / d = q at *
 generalize hA:q % (2 * g) = a at *
 generalize hQ:q / (2 * g) = b at *
 have s1:(2 * q+t) / (2 * (2 * g)) = b:=by
  rw [← hq,Nat.mul_add,← Nat.mul_assoc 2 (2 * g) b,Nat.add_assoc]
  rw [Nat.mul_add_div (by omega),Nat.div_eq_of_lt (by omega),Nat.add_zero]
 have s2:(2 * q+t) % (2 * (2 * g)) = 2 * a+t:=by
  rw [← hq,Nat.mul_add,← Nat.mul_assoc 2 (2 * g) b,Nat.add_assoc,Nat.mul_add_mod,Nat.mod_eq_of_lt (by omega)]
 rw [s1,s2]
 congr 1
 -- where a stands beside half
 rcases Nat.lt_trichotomy a g with h | h | h
 ·have:d * a+d≤d * g:=by rw [← Nat.mul_succ];exact Nat.mul_le_mul_left d h
  have e3:d * (2 * g) = 2 * (d * g):=by rw [Nat.mul_left_comm]
  rw [e3]
  rw [if_neg (by omega),if_neg (by omega)]
 ·subst h
  have e3:d * (2 * a) = 2 * (d * a):=by rw [Nat.mul_left_comm]
  rw [e3]
  by_cases h0:r = 0
  ·have:=htz.2 h0
   by_cases h1:b % 2 = 1
   ·rw [if_pos (Or.inr ⟨by omega,h1⟩),if_pos (Or.inr ⟨by omega,h1⟩)]
   ·rw [if_neg (by omega),if_neg (by omega)]
  ·have:t ≠ 0:=fun e=>h0 (htz.1 e)
   rw [if_pos (Or.inl (by omega)),if_pos (Or.inl (by omega))]
 ·have:d * g+d≤d * a:=by rw [← Nat.mul_succ];exact Nat.mul_le_mul_left d h
  have e3:d * (2 * g) = 2 * (d * g):=by rw [Nat.mul_left_comm]
  rw [e3]
  rw [if_pos (Or.inl (by omega)),if_pos (Or.inl (by omega))]
theorem stk_bl (N d i:Nat) (hd:0 < d) (hq:0 < N / d):bl (stk (N * 2 ^ i) d) = bl (stk N d)+i:=by
 have hp:0 < 2 ^ i:=Nat.two_pow_pos _
 have hs:stk N d ≠ 0:=by unfold stk;omega
 obtain ⟨b1,b2,b3⟩:=bl_spec (stk N d) hs
 have h1:2≤stk N d:=by unfold stk;omega
 have hb2:2≤bl (stk N d):=by
  rcases Nat.lt_or_ge (bl (stk N d)) 2 with h | h
  ·have:bl (stk N d) = 1:=by omega
   rw [this] at b3;omega
  ·exact h
 obtain ⟨c,hc⟩:∃ c,bl (stk N d) = c+2:=⟨bl (stk N d) - 2,by omega⟩
 rw [hc] at b2 b3 ⊢
 -- of whole quotients: 2^c≤N / d < 2^(c+1)
 have q1:2 ^ (c+1)≤N / d * 2:=by
  rw [show c+2 - 1 = c+1 by omega,Nat.pow_succ] at b2
  unfold stk at b2
  rw [Nat.pow_succ]
  have ht:(if N % d = 0 then 0 else 1)≤1:=by split <;> omega
  omega
 have q2:N / d < 2 ^ (c+1):=by
  rw [Nat.pow_succ] at b3
  unfold stk at b3
  omega
 have q3:2 ^ c≤N / d:=by rw [Nat.pow_succ] at q1;omega
 have n1:2 ^ c * d≤N:=(Nat.le_div_iff_mul_le hd).1 q3
 have n2:N < 2 ^ (c+1) * d:=(Nat.div_lt_iff_lt_mul hd).1 q2
 have m1:2 ^ (c+i)≤N * 2 ^ i / d:=(Nat.le_div_iff_mul_le hd).2 (by
  rw [Nat.pow_add,Nat.mul_right_comm];exact Nat.mul_le_mul_right _ n1)
 have m2:N * 2 ^ i / d < 2 ^ (c+1+i):=(Nat.div_lt_iff_lt_mul hd).2 (by
  rw [Nat.pow_add,Nat.mul_right_comm];exact (Nat.mul_lt_mul_right hp).2 n2)
 refine bl_of (by omega) ?_ ?_
 ·rw [show c+2+i - 1 = c+i+1 by omega,Nat.pow_succ]
  unfold stk
  omega
 ·rw [show c+2+i = c+1+i+1 by omega,Nat.pow_succ]
  unfold stk
  have ht:(if N * 2 ^ i % d = 0 then 0 else 1)≤1:=by split <;> omega
  omega
theorem stk_big {N d:Nat} (hq:9007199254740992≤N / d):55≤bl (stk N d):=by
 have hs:stk N d ≠ 0:=by unfold stk;omega
 obtain ⟨b1,b2,b3⟩:=bl_spec (stk N d) hs
 have h:2 ^ 54≤stk N d:=by
  have:(2:Nat) ^ 54 = 2 * 9007199254740992:=by decide
  rw [this];unfold stk;omega
 have:=pow_lt_of (Nat.lt_of_le_of_lt h b3)
 omega
theorem stk_step (N d i:Nat) (E:Int) (hd:0 < d) (hq:9007199254740992≤N / d) :
  rnd (stk (N * 2 ^ i) d) (E - i) = rnd (stk N d) E∧lastE (stk (N * 2 ^ i) d) (E - i) = lastE (stk N d) E∧(bl (stk (N * 2 ^ i) d):Int)+(E - i) = (bl (stk N d):Int)+E∧E+2≤lastE (stk N d) E:=by
 have hb:=stk_bl N d i hd (by omega)
 have h55:=stk_big hq
 have hs:stk N d ≠ 0:=by unfold stk;omega
 have hs':stk (N * 2 ^ i) d ≠ 0:=fun h=>by
  rw [h] at hb
  have:bl 0 = 0:=rfl
  omega
 have hl:lastE (stk (N * 2 ^ i) d) (E - i) = lastE (stk N d) E:=by unfold lastE;rw [hb];omega
 have hbE:(bl (stk (N * 2 ^ i) d):Int)+(E - i) = (bl (stk N d):Int)+E:=by rw [hb];omega
 have h2:E+2≤lastE (stk N d) E:=by have:=(lastE_ge (stk N d) E).2.1;omega
 refine ⟨?_,hl,hbE,h2⟩
 have hM:rndM (stk (N * 2 ^ i) d) (E - i) = rndM (stk N d) E:=by
  unfold rndM
  rw [hl]
  obtain ⟨k,hk⟩:∃ k:Nat,lastE (stk N d) E = E+k+1∧1≤k:=⟨(lastE (stk N d) E - E - 1).toNat,by omega,by omega⟩
  rw [show E - i - lastE (stk N d) E = -((k+i+1:Nat):Int) by omega,show E - lastE (stk N d) E = -((k+1:Nat):Int) by omega]
  rw [mS_down _ _ (by omega),mS_down _ _ (by omega),stk_cut _ _ _ hd (by omega),stk_cut _ _ _ hd (by omega)]
  rw [Nat.pow_add,← Nat.mul_assoc]
  exact cutQ_scale _ _ _
 unfold rnd
 rw [if_neg hs,if_neg hs',hbE,hM,hl]
theorem stk_flag (N d i:Nat) (E:Int) (hd:d % 2 = 1) (hq:9007199254740992≤N / d) :
  rflag (oM (stk (N * 2 ^ i) d:Nat)).natAbs (oE (stk (N * 2 ^ i) d:Nat) (E - i)) = rflag (oM (stk N d:Nat)).natAbs (oE (stk N d:Nat) E):=by
 have hd0:0 < d:=by omega
 obtain ⟨s1,s2,s3,s4⟩:=stk_step N d i E hd0 hq
 by_cases h0:N % d = 0
 ·have hN:N = N / d * d:=by have:=Nat.div_add_mod N d;rw [h0,Nat.add_zero,Nat.mul_comm] at this;exact this.symm
  have h1:N * 2 ^ i % d = 0:=by rw [Nat.mul_mod,h0];simp
  have h2:N * 2 ^ i / d = N / d * 2 ^ i:=by
   conv=>lhs;rw [hN,Nat.mul_right_comm]
   exact Nat.mul_div_cancel _ hd0
  have e:stk (N * 2 ^ i) d = stk N d * 2 ^ i:=by
   unfold stk;rw [if_pos h0,if_pos h1,h2];rw [Nat.add_zero,Nat.add_zero,Nat.mul_assoc]
  have e2:((stk (N * 2 ^ i) d:Nat):Int) = ((stk N d:Nat):Int) * 2 ^ i:=by rw [e,Int.natCast_mul,Int.natCast_pow];rfl
  have:=oM_scale ((stk N d:Nat):Int) i (E - i)
  rw [e2,this.1,this.2,show E - (i:Int)+i = E by omega]
 ·have h1:N * 2 ^ i % d ≠ 0:=fun h=>h0 (by
   have hdv:d ∣ N * 2 ^ i:=Nat.dvd_of_mod_eq_zero h
   have hc:Nat.Coprime d (2 ^ i):=by
    apply Nat.Coprime.pow_right
    unfold Nat.Coprime
    have h4:Nat.gcd d 2 ∣ 2:=Nat.gcd_dvd_right d 2
    have h5:Nat.gcd d 2 ∣ d:=Nat.gcd_dvd_left d 2
    have h6:Nat.gcd d 2≤2:=Nat.le_of_dvd (by decide) h4
    have h7:Nat.gcd d 2 ≠ 0:=fun e=>by rw [e] at h4;exact absurd (Nat.eq_zero_of_zero_dvd h4) (by decide)
    have h8:Nat.gcd d 2 ≠ 2:=fun e=>by rw [e] at h5;omega
    omega
   exact Nat.mod_eq_zero_of_dvd (hc.dvd_of_dvd_mul_right hdv))
  have o1:((stk N d:Nat):Int) % 2 = 1:=by unfold stk;rw [if_neg h0];omega
  have o2:((stk (N * 2 ^ i) d:Nat):Int) % 2 = 1:=by unfold stk;rw [if_neg h1];omega
  have z1:∀ (v:Nat) (e:Int),(v:Int) % 2 = 1→oM (v:Int) = v∧oE (v:Int) e = e:=fun v e h=>by
   have hne:(v:Int) ≠ 0:=by omega
   have a:=(oddOf (v:Int) hne).unique (m':=(v:Int)) (k':=0) ⟨by simp,h⟩
   exact ⟨a.1,by rw [oE_ne _ _ hne,a.2];simp⟩
  rw [(z1 _ (E - i) o2).1,(z1 _ (E - i) o2).2,(z1 _ E o1).1,(z1 _ E o1).2,Int.natAbs_natCast,Int.natAbs_natCast]
  have n1:stk N d ≠ 0:=by omega
  have n2:stk (N * 2 ^ i) d ≠ 0:=by omega
  unfold rflag
  rw [if_neg n1,if_neg n2,s3,s2,s1,if_neg (show ¬ lastE (stk N d) E≤E - i by omega),if_neg (show ¬ lastE (stk N d) E≤E by omega)]
theorem stk_any (n d p q:Nat) (c:Int) (hd:0 < d) (hp:9007199254740992≤n * 2 ^ p / d) (hq:9007199254740992≤n * 2 ^ q / d) :
  rnd (stk (n * 2 ^ p) d) (c - p) = rnd (stk (n * 2 ^ q) d) (c - q):=by
 have h1:=(stk_step (n * 2 ^ p) d q (c - p) hd hp).1
 have h2:=(stk_step (n * 2 ^ q) d p (c - q) hd hq).1
 rw [Nat.mul_assoc,← Nat.pow_add] at h1 h2
 rw [Nat.add_comm q p,show c - (q:Int) - p = c - p - q by omega] at h2
 rw [← h1,← h2]
theorem stk_any_flag (n d p q:Nat) (c:Int) (hd:d % 2 = 1) (hp:9007199254740992≤n * 2 ^ p / d) (hq:9007199254740992≤n * 2 ^ q / d) :
  rflag (oM (stk (n * 2 ^ p) d:Nat)).natAbs (oE (stk (n * 2 ^ p) d:Nat) (c - p)) = rflag (oM (stk (n * 2 ^ q) d:Nat)).natAbs (oE (stk (n * 2 ^ q) d:Nat) (c - q)):=by
 have h1:=stk_flag (n * 2 ^ p) d q (c - p) hd hp
 have h2:=stk_flag (n * 2 ^ q) d p (c - q) hd hq
 rw [Nat.mul_assoc,← Nat.pow_add] at h1 h2
 rw [Nat.add_comm q p,show c - (q:Int) - p = c - p - q by omega] at h2
 rw [← h1,← h2]
theorem stk_both (N d c:Nat):stk (N * 2 ^ c) (d * 2 ^ c) = stk N d:=by
 have hp:0 < 2 ^ c:=Nat.two_pow_pos _
 unfold stk
 rw [Nat.mul_div_mul_right _ _ hp,Nat.mul_mod_mul_right]
 have:N % d * 2 ^ c = 0 ↔ N % d = 0:=by
  constructor
  ·intro h;rcases Nat.mul_eq_zero.1 h with h | h <;> omega
  ·intro h;rw [h,Nat.zero_mul]
 simp only [this]
end Go.Proofs.YtdhmglmccafbnaaGreatDoor
