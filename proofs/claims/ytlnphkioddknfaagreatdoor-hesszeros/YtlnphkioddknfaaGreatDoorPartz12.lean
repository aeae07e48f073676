/- Part 12 of the texts. -/
import Derived.Test.YtlnphkioddknfaaGreatDoorPartz03
import Derived.Test.YtlnphkioddknfaaGreatDoorPartz10
import Derived.Test.YtlnphkioddknfaaGreatDoorPartz11
set_option maxHeartbeats 2000000
namespace Go.Proofs.YtlnphkioddknfaaGreatDoor
open Go.RowKit
def fA (b:Nat):Nat:=if fP b = 0 then fF b else fF b+4503599627370496
def fM (b:Nat):Int:=sg (fS b) (fA b)
def fE (b:Nat):Int:=if fP b = 0 then -1074 else (fP b:Int) - 1075
theorem fA_lt (b:Nat):fA b < 9007199254740992:=by unfold fA;have:=fF_lt b;split <;> omega
theorem fM_lt (b:Nat):(fM b).natAbs < 9007199254740992:=by
 have:=fA_lt b
 unfold fM sg
 split <;> omega
theorem fE_in (b:Nat):-1074≤fE b∧fE b≤972:=by
 have:=fP_lt b
 unfold fE
 split <;> omega
theorem parts_any (b:Nat) (w:World) :
  Calls Tryz.prog 228 #[fV b] w fun e w'=>e = .returned (.tuple #[.int .i64 (fM b),.int .i64 (fE b)])∧Below w.heap.size w w':=by
 unfold fV fM fE fA
 have hp:=fP_lt b
 have hf:=fF_lt b
 generalize fF b = f at *
 generalize fP b = p at *
 generalize fS b = s at *
 have hf0:(0:Int)≤f:=by omega
 have hf1:(f:Int) < 4503599627370496:=by omega
 have hp1:(p:Int) < 2048:=by omega
 by_cases h0:p = 0
 ·subst h0
  rw [if_pos rfl,if_pos rfl]
  cases s
  ·go_enter Tryz.func228,Tryz.ntmps228
   go_wp2
   exact bodyPost_ret (v:=.tuple #[.int .i64 f,.int .i64 (-1074)]) (by simp [results,Tryz.results228,go_sem]) rfl ⟨rfl,(Below.refl _ _).alloc (Nat.le_refl _) _⟩
  ·go_enter Tryz.func228,Tryz.ntmps228
   go_wp2
   exact bodyPost_ret (v:=.tuple #[.int .i64 (-f),.int .i64 (-1074)]) (by simp [results,Tryz.results228,go_sem]) rfl ⟨rfl,(Below.refl _ _).alloc (Nat.le_refl _) _⟩
 ·rw [if_neg h0,if_neg h0]
  have h1:0 < p:=by omega
  have h1':decide (0 < p) = true:=decide_eq_true h1
  have w0:IntKind.i64.wrap (f:Int) = (f:Int):=by simp only [IntKind.wrap_i64];omega
  have w2:IntKind.i64.wrap (p:Int) = (p:Int):=by simp only [IntKind.wrap_i64];omega
  obtain ⟨a,ha⟩:∃ a:Nat,a = f+4503599627370496:=⟨_,rfl⟩
  have w1:IntKind.i64.wrap ((f:Int)+4503599627370496) = (a:Int):=by simp only [IntKind.wrap_i64];omega
  have w4:IntKind.i64.wrap (-(a:Int)) = -(a:Int):=by simp only [IntKind.wrap_i64];omega
  have w5:IntKind.i64.wrap ((p:Int) - 1) = (p:Int) - 1:=by simp only [IntKind.wrap_i64];omega
  have w6:IntKind.i64.wrap (-1074+((p:Int) - 1)) = (p:Int) - 1075:=by simp only [IntKind.wrap_i64];omega
  rw [← ha]
  clear h0 hf hp hf1 hp1 hf0 ha
  cases s
  ·go_enter Tryz.func228,Tryz.ntmps228
   go_wp2
   exact bodyPost_ret (v:=.tuple #[.int .i64 a,.int .i64 (p - 1075)]) (by simp [results,Tryz.results228,go_sem]) rfl ⟨rfl,(Below.refl _ _).alloc (Nat.le_refl _) _⟩
  ·go_enter Tryz.func228,Tryz.ntmps228
   go_wp2
   exact bodyPost_ret (v:=.tuple #[.int .i64 (-a),.int .i64 (p - 1075)]) (by simp [results,Tryz.results228,go_sem]) rfl ⟨rfl,(Below.refl _ _).alloc (Nat.le_refl _) _⟩
end Go.Proofs.YtlnphkioddknfaaGreatDoor
namespace Go.Proofs.YtlnphkioddknfaaGreatDoor
open Go.RowKit
attribute [local go_sem ↓] Go.wp_at_zero Go.wp_at_succ
theorem ad_fits {sa x sb y:Int} (e1:upE sa x (lowE sa x sb y) = 0) (e2:upE sb y (lowE sa x sb y) = 0) (hz:(sumZ sa x sb y).natAbs < TOP) :
  adE sa x sb y = dErr (sumZ sa x sb y) (lowE sa x sb y)∧adM sa x sb y = dM (sumZ sa x sb y) (lowE sa x sb y)∧adX sa x sb y = dX (sumZ sa x sb y) (lowE sa x sb y):=by
 have hf:fitsB sa x sb y = true:=decide_eq_true ⟨e1,e2,hz⟩
 unfold adE adM adX
 rw [hf]
 exact ⟨rfl,rfl,rfl⟩
end Go.Proofs.YtlnphkioddknfaaGreatDoor
namespace Go.Proofs.YtlnphkioddknfaaGreatDoor
open Go.RowKit
def sgnI (z:Int):Int:=if z < 0 then -1 else if z = 0 then 0 else 1
theorem sgnI_neg {u:Int} (h:u < 0):sgnI u = -1:=by unfold sgnI;rw [if_pos h]
theorem sgnI_pos {u:Int} (h:0 < u):sgnI u = 1:=by unfold sgnI;rw [if_neg (by omega),if_neg (by omega)]
theorem sgnI_mul_pow (s:Int) (k:Nat):sgnI (s * 2 ^ k) = sgnI s:=by
 have hp:(0:Int) < 2 ^ k:=Int.pow_pos (by decide)
 rcases Int.lt_trichotomy s 0 with h | h | h
 ·rw [sgnI_neg h,sgnI_neg (Int.mul_neg_of_neg_of_pos h hp)]
 ·subst h;rw [Int.zero_mul]
 ·rw [sgnI_pos h,sgnI_pos (Int.mul_pos h hp)]
end Go.Proofs.YtlnphkioddknfaaGreatDoor
namespace Go.Proofs.YtlnphkioddknfaaGreatDoor
open Go.RowKit
attribute [local go_sem ↓] Go.wp_at_zero Go.wp_at_succ
theorem sgnI_oM (z:Int):sgnI (oM z) = sgnI z:=by
 by_cases h:z = 0
 ·subst h;rw [oM_zero]
 ·have:=(oddOf z h).1
  conv=>rhs;rw [this]
  rw [sgnI_mul_pow]
end Go.Proofs.YtlnphkioddknfaaGreatDoor
namespace Go.Proofs.YtlnphkioddknfaaGreatDoor
open Go.RowKit
theorem pow2_ne (k:Nat):(2:Int) ^ k ≠ 0:=Int.pow_ne_zero (by decide)
theorem oM_scale (z:Int) (k:Nat) (e:Int):oM (z * 2 ^ k) = oM z∧oE (z * 2 ^ k) e = oE z (e+k):=by
 by_cases h:z = 0
 ·subst h;rw [Int.zero_mul,oM_zero,oE_zero,oE_zero];exact ⟨rfl,rfl⟩
 ·have h1:z * 2 ^ k ≠ 0:=fun e=>by rcases Int.mul_eq_zero.1 e with e | e;exact h e;exact pow2_ne k e
  have hO:=oddOf z h
  have h2:OddOf (z * 2 ^ k) (oM z) (tz z.natAbs+k):=by
   refine ⟨?_,hO.2⟩
   conv=>lhs;rw [hO.1]
   rw [Int.mul_assoc,← Int.pow_add]
  obtain ⟨_,e1,e2⟩:=h2.eq
  refine ⟨e1.symm,?_⟩
  rw [oE_ne _ _ h1,oE_ne _ _ h,← e2]
  omega
theorem oM_mul (z1 z2:Int):oM (z1 * z2) = oM z1 * oM z2:=by
 by_cases h1:z1 = 0
 ·subst h1;rw [Int.zero_mul,oM_zero,Int.zero_mul]
 by_cases h2:z2 = 0
 ·subst h2;rw [Int.mul_zero,oM_zero,Int.mul_zero]
 have a:=oddOf z1 h1
 have b:=oddOf z2 h2
 have h:OddOf (z1 * z2) (oM z1 * oM z2) (tz z1.natAbs+tz z2.natAbs):=by
  refine ⟨?_,?_⟩
  ·conv=>lhs;rw [a.1,b.1]
   rw [Int.pow_add]
   simp only [Int.mul_assoc,Int.mul_left_comm]
  ·rw [Int.mul_emod,a.2,b.2];rfl
 exact h.eq.2.1.symm
theorem tz_mul2 (z1 z2:Int) (h1:z1 ≠ 0) (h2:z2 ≠ 0):tz (z1 * z2).natAbs = tz z1.natAbs+tz z2.natAbs:=by
 have a:=oddOf z1 h1
 have b:=oddOf z2 h2
 have h:OddOf (z1 * z2) (oM z1 * oM z2) (tz z1.natAbs+tz z2.natAbs):=by
  refine ⟨?_,?_⟩
  ·conv=>lhs;rw [a.1,b.1]
   rw [Int.pow_add]
   simp only [Int.mul_assoc,Int.mul_left_comm]
  ·rw [Int.mul_emod,a.2,b.2];rfl
 exact h.eq.2.2.symm
def Lvl (lo:Int) (W:Nat) (z:Int):Prop:=z.natAbs < 2 ^ W∧-16384≤lo∧lo+W≤16384∧W≤16384
theorem Lvl.tzs {lo:Int} {W:Nat} {z:Int} (h:Lvl lo W z) (h0:z ≠ 0):tz z.natAbs < W:=tz_lt _ _ (by omega) h.1
theorem Lvl.tops {lo:Int} {W:Nat} {z:Int} (h:Lvl lo W z):z.natAbs < TOP:=lt_TOP h.1 h.2.2.2
theorem Lvl.right {lo:Int} {W:Nat} {z:Int} (h:Lvl lo W z):dRt (oM z) (oE z lo) = true∧(oM z).natAbs < TOP:=by
 refine ⟨?_,Nat.lt_of_le_of_lt (oM_le z) h.tops⟩
 unfold dRt
 by_cases h0:z = 0
 ·subst h0;rw [oM_zero,oE_zero];rfl
 ·obtain ⟨o1,o2⟩:=oM_ne z h0
  have ht:=h.tzs h0
  obtain ⟨_,h2,h3,_⟩:=h
  rw [if_neg o1,oE_ne _ _ h0,decide_eq_true o2,decide_eq_true (show -16384≤lo+(tz z.natAbs:Int)∧lo+(tz z.natAbs:Int)≤16384 by omega)]
  rfl
theorem oM_level (z lo:Int) (h:z ≠ 0):oM z * 2 ^ (oE z lo - lo).toNat = z:=by
 rw [oE_ne _ _ h,show (lo+(tz z.natAbs:Int) - lo).toNat = tz z.natAbs by omega]
 exact (oddOf z h).1.symm
theorem dErr_odd (m e:Int) (h:dRt m e = true):dErr m e = 0∧dM m e = m∧dX m e = e:=by
 unfold dRt at h
 by_cases h0:m = 0
 ·subst h0
  rw [if_pos rfl] at h
  have he:=of_decide_eq_true h
  subst he
  decide
 ·rw [if_neg h0,Bool.and_eq_true] at h
  have ho:=of_decide_eq_true h.1
  have hr:=of_decide_eq_true h.2
  have hm:OddOf m m 0:=⟨by simp,ho⟩
  obtain ⟨_,e1,e2⟩:=hm.eq
  have hk:dOk m e = true:=by
   unfold dOk
   rw [← e2,decide_eq_true (show -32768≤e∧e≤32768 by omega),decide_eq_true (show -16384≤e+((0:Nat):Int)∧e+((0:Nat):Int)≤16384 by omega)]
   simp
  unfold dErr dM dX
  rw [hk,← e1,oE_ne _ _ h0,← e2]
  simp
theorem ad_level {lo:Int} {W:Nat} {z1 z2:Int} (h1:Lvl lo W z1) (h2:Lvl lo W z2) (h3:Lvl lo W (z1+z2)) :
  adE (oM z1) (oE z1 lo) (oM z2) (oE z2 lo) = 0∧adM (oM z1) (oE z1 lo) (oM z2) (oE z2 lo) = oM (z1+z2)∧adX (oM z1) (oE z1 lo) (oM z2) (oE z2 lo) = oE (z1+z2) lo:=by
 have r1:=h1.right
 have r2:=h2.right
 have bE:∀ m e,dRt m e = true→-16384≤e∧e≤16384:=fun m e h=>by
  unfold dRt at h
  by_cases h0:m = 0
  ·rw [if_pos h0] at h;have:=of_decide_eq_true h;omega
  ·rw [if_neg h0,Bool.and_eq_true] at h;exact of_decide_eq_true h.2
 by_cases a0:z1 = 0
 ·subst a0
  rw [oM_zero,oE_zero,Int.zero_add]
  obtain ⟨p1,p2,p3⟩:=add_zero_l (oM z2) (oE z2 lo) (bE _ _ r2.1) r2.2
  rw [p1,p2,p3]
  exact dErr_odd _ _ r2.1
 by_cases b0:z2 = 0
 ·subst b0
  rw [oM_zero,oE_zero,Int.add_zero]
  obtain ⟨p1,p2,p3⟩:=add_zero_r (oM z1) (oE z1 lo) (bE _ _ r1.1) r1.2 (oM_ne z1 a0).1
  rw [p1,p2,p3]
  exact dErr_odd _ _ r1.1
 have sa:=(oM_ne z1 a0).1
 have sb:=(oM_ne z2 b0).1
 have x1:=oE_ne z1 lo a0
 have x2:=oE_ne z2 lo b0
 have t1:=h1.tzs a0
 have t2:=h2.tzs b0
 have hz1:=h1.tops
 obtain ⟨_,l1,l2,l3⟩:=h1
 have hl:=lowE_ne (oM z1) (oE z1 lo) (oM z2) (oE z2 lo) sa sb
 obtain ⟨l,hl'⟩:∃ l,min (oE z1 lo) (oE z2 lo) = l:=⟨_,rfl⟩
 rw [hl'] at hl
 have hl0:lo≤l:=by omega
 obtain ⟨k,hk⟩:∃ k:Nat,(k:Int) = l - lo:=⟨(l - lo).toNat,by omega⟩
 have hlk:lo+(k:Int) = l:=by omega
 have u1:up (oM z1) (oE z1 lo) l * 2 ^ k = z1:=by
  conv=>rhs;rw [← oM_level z1 lo a0]
  unfold up
  rw [Int.mul_assoc,← Int.pow_add]
  congr 2
  omega
 have u2:up (oM z2) (oE z2 lo) l * 2 ^ k = z2:=by
  conv=>rhs;rw [← oM_level z2 lo b0]
  unfold up
  rw [Int.mul_assoc,← Int.pow_add]
  congr 2
  omega
 have hz2:=h2.tops
 have dd1:oE z1 lo - l≤16384:=by clear hz1 hz2;omega
 have dd2:oE z2 lo - l≤16384:=by clear hz1 hz2;omega
 have le_of:∀ u z:Int,u * 2 ^ k = z→u.natAbs≤z.natAbs:=fun u z h=>by
  rw [← h,Int.natAbs_mul,Int.natAbs_pow]
  exact Nat.le_mul_of_pos_right _ (Nat.pow_pos (by decide))
 have hZ:sumZ (oM z1) (oE z1 lo) (oM z2) (oE z2 lo) * 2 ^ k = z1+z2:=by
  unfold sumZ
  rw [hl,Int.add_mul,u1,u2]
 have e1:upE (oM z1) (oE z1 lo) l = 0:=upE_ok _ _ _ (Nat.lt_of_le_of_lt (le_of _ _ u1) hz1) dd1
 have e2:upE (oM z2) (oE z2 lo) l = 0:=upE_ok _ _ _ (Nat.lt_of_le_of_lt (le_of _ _ u2) hz2) dd2
 have hzT:(sumZ (oM z1) (oE z1 lo) (oM z2) (oE z2 lo)).natAbs < TOP:=Nat.lt_of_le_of_lt (le_of _ _ hZ) h3.tops
 obtain ⟨p1,p2,p3⟩:=ad_fits (by rw [hl];exact e1) (by rw [hl];exact e2) hzT
 rw [p1,p2,p3,hl]
 generalize sumZ (oM z1) (oE z1 lo) (oM z2) (oE z2 lo) = Z at *
 have hs:=oM_scale Z k lo
 rw [hZ] at hs
 have hx:oE (z1+z2) lo = oE Z l:=by rw [hs.2,hlk]
 have r3:=h3.right.1
 rw [hs.1,hx] at r3 ⊢
 have hin:-32768≤l∧l≤32768:=by clear hz1 hz2 hzT;omega
 exact (told_make Z l hin).1 r3
theorem mul_level {lo1 lo2:Int} {W1 W2 W:Nat} {z1 z2:Int} (h3:Lvl (lo1+lo2) W (z1 * z2)) (h1:Lvl lo1 W1 z1) (h2:Lvl lo2 W2 z2) :
  (oM z1 * oM z2).natAbs < TOP∧dErr (oM z1 * oM z2) (oE z1 lo1+oE z2 lo2) = 0∧dM (oM z1 * oM z2) (oE z1 lo1+oE z2 lo2) = oM (z1 * z2)∧dX (oM z1 * oM z2) (oE z1 lo1+oE z2 lo2) = oE (z1 * z2) (lo1+lo2):=by
 have r3:=h3.right
 rw [← oM_mul]
 refine ⟨r3.2,?_⟩
 by_cases a0:z1 = 0
 ·subst a0
  have bE:-16384≤oE z2 lo2∧oE z2 lo2≤16384:=by
   by_cases b0:z2 = 0
   ·subst b0;rw [oE_zero];decide
   ·have:=h2.tzs b0
    rw [oE_ne _ _ b0]
    have:=h2.2
    omega
  rw [Int.zero_mul,oM_zero,oE_zero,oE_zero,Int.zero_add]
  have hk:dOk 0 (oE z2 lo2) = true:=by unfold dOk;rw [decide_eq_true (show -32768≤oE z2 lo2∧oE z2 lo2≤32768 by omega)];simp
  unfold dErr dM dX
  rw [hk]
  simp [oM_zero,oE_zero]
 by_cases b0:z2 = 0
 ·subst b0
  have bE:-16384≤oE z1 lo1∧oE z1 lo1≤16384:=by
   have:=h1.tzs a0
   rw [oE_ne _ _ a0]
   have:=h1.2
   omega
  rw [Int.mul_zero,oM_zero,oE_zero,oE_zero,Int.add_zero]
  have hk:dOk 0 (oE z1 lo1) = true:=by unfold dOk;rw [decide_eq_true (show -32768≤oE z1 lo1∧oE z1 lo1≤32768 by omega)];simp
  unfold dErr dM dX
  rw [hk]
  simp [oM_zero,oE_zero]
 have hx:oE z1 lo1+oE z2 lo2 = oE (z1 * z2) (lo1+lo2):=by
  have h0:z1 * z2 ≠ 0:=fun e=>by rcases Int.mul_eq_zero.1 e with e | e;exact a0 e;exact b0 e
  rw [oE_ne _ _ a0,oE_ne _ _ b0,oE_ne _ _ h0,tz_mul2 z1 z2 a0 b0]
  omega
 rw [hx]
 exact dErr_odd _ _ r3.1
end Go.Proofs.YtlnphkioddknfaaGreatDoor
