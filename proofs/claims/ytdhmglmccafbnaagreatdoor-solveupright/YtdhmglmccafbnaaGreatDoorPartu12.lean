/- Part 12 of the texts. -/
import Derived.Test.YtdhmglmccafbnaaGreatDoorPartu11
import Derived.Test.YtdhmglmccafbnaaGreatDoorPartu10
import Derived.Deep.Cut
set_option maxHeartbeats 4000000
namespace Go.Proofs.YtdhmglmccafbnaaGreatDoor
open Go.RowKit
theorem pow2_ne (k:Nat):(2:Int) ^ k ≠ 0:=Int.pow_ne_zero (by decide)
theorem oM_scale (z:Int) (k:Nat) (e:Int):oM (z * 2 ^ k) = oM z∧oE (z * 2 ^ k) e = oE z (e+k):=by
 by_cases h:z = 0
 ·subst h;rw [Int.zero_mul,oM_zero,oE_zero,oE_zero];exact ⟨rfl,rfl⟩
 ·have h1:z * 2 ^ k ≠ 0:=fun e=>by rcases Int.mul_eq_zero.1 e with e | e;exact h e;exact pow2_ne k e
  have hO:=oddOf z h
  have h2:OddOf (z * 2 ^ k) (oM z) (tz z.natAbs+k):=by
   refine ⟨?_,hO.2⟩
   conv=>lhs;rw [hO.1]
   rw [Int.mul_assoc,← Int.pow_add]
  obtain ⟨_,e1,e2⟩:=h2.eq
  refine ⟨e1.symm,?_⟩
  rw [oE_ne _ _ h1,oE_ne _ _ h,← e2]
  omega
theorem oM_mul (z1 z2:Int):oM (z1 * z2) = oM z1 * oM z2:=by
 by_cases h1:z1 = 0
 ·subst h1;rw [Int.zero_mul,oM_zero,Int.zero_mul]
 by_cases h2:z2 = 0
 ·subst h2;rw [Int.mul_zero,oM_zero,Int.mul_zero]
 have a:=oddOf z1 h1
 have b:=oddOf z2 h2
 have h:OddOf (z1 * z2) (oM z1 * oM z2) (tz z1.natAbs+tz z2.natAbs):=by
  refine ⟨?_,?_⟩
  ·conv=>lhs;rw [a.1,b.1]
   rw [Int.pow_add]
   simp only [Int.mul_assoc,Int.mul_left_comm]
  ·rw [Int.mul_emod,a.2,b.2];rfl
 exact h.eq.2.1.symm
theorem tz_mul2 (z1 z2:Int) (h1:z1 ≠ 0) (h2:z2 ≠ 0):tz (z1 * z2).natAbs = tz z1.natAbs+tz z2.natAbs:=by
 have a:=oddOf z1 h1
 have b:=oddOf z2 h2
 have h:OddOf (z1 * z2) (oM z1 * oM z2) (tz z1.natAbs+tz z2.natAbs):=by
  refine ⟨?_,?_⟩
  ·conv=>lhs;rw [a.1,b.1]
   rw [Int.pow_add]
   simp only [Int.mul_assoc,Int.mul_left_comm]
  ·rw [Int.mul_emod,a.2,b.2];rfl
 exact h.eq.2.2.symm
theorem oM_neg (z:Int):oM (-z) = - oM z∧∀ e,oE (-z) e = oE z e:=by
 by_cases h:z = 0
 ·subst h;rw [Int.neg_zero,oM_zero];exact ⟨rfl,fun _=>rfl⟩
 ·have a:=oddOf z h
  have h2:OddOf (-z) (- oM z) (tz z.natAbs):=by
   refine ⟨?_,by have:=a.2;omega⟩
   conv=>lhs;rw [a.1]
   rw [Int.neg_mul]
  refine ⟨h2.eq.2.1.symm,fun e=>?_⟩
  rw [oE_ne _ _ (by omega),oE_ne _ _ h,Int.natAbs_neg]
def Lvl (lo:Int) (W:Nat) (z:Int):Prop:=z.natAbs < 2 ^ W∧-16384≤lo∧lo+W≤16384∧W≤16384
theorem Lvl.tzs {lo:Int} {W:Nat} {z:Int} (h:Lvl lo W z) (h0:z ≠ 0):tz z.natAbs < W:=tz_lt _ _ (by omega) h.1
theorem Lvl.tops {lo:Int} {W:Nat} {z:Int} (h:Lvl lo W z):z.natAbs < TOP:=lt_TOP h.1 h.2.2.2
theorem Lvl.right {lo:Int} {W:Nat} {z:Int} (h:Lvl lo W z):dRt (oM z) (oE z lo) = true∧(oM z).natAbs < TOP:=by
 refine ⟨?_,Nat.lt_of_le_of_lt (oM_le z) h.tops⟩
 unfold dRt
 by_cases h0:z = 0
 ·subst h0;rw [oM_zero,oE_zero];rfl
 ·obtain ⟨o1,o2⟩:=oM_ne z h0
  have ht:=h.tzs h0
  obtain ⟨_,h2,h3,_⟩:=h
  rw [if_neg o1,oE_ne _ _ h0,decide_eq_true o2,decide_eq_true (show -16384≤lo+(tz z.natAbs:Int)∧lo+(tz z.natAbs:Int)≤16384 by omega)]
  rfl
theorem oM_level (z lo:Int) (h:z ≠ 0):oM z * 2 ^ (oE z lo - lo).toNat = z:=by
 rw [oE_ne _ _ h,show (lo+(tz z.natAbs:Int) - lo).toNat = tz z.natAbs by omega]
 exact (oddOf z h).1.symm
theorem dErr_odd (m e:Int) (h:dRt m e = true):dErr m e = 0∧dM m e = m∧dX m e = e:=by
 unfold dRt at h
 by_cases h0:m = 0
 ·subst h0
  rw [if_pos rfl] at h
  have he:=of_decide_eq_true h
  subst he
  decide
 ·rw [if_neg h0,Bool.and_eq_true] at h
  have ho:=of_decide_eq_true h.1
  have hr:=of_decide_eq_true h.2
  have hm:OddOf m m 0:=⟨by simp,ho⟩
  obtain ⟨_,e1,e2⟩:=hm.eq
  have hk:dOk m e = true:=by
   unfold dOk
   rw [← e2,decide_eq_true (show -32768≤e∧e≤32768 by omega),decide_eq_true (show -16384≤e+((0:Nat):Int)∧e+((0:Nat):Int)≤16384 by omega)]
   simp
  unfold dErr dM dX
  rw [hk,← e1,oE_ne _ _ h0,← e2]
  simp
theorem ad_level {lo:Int} {W:Nat} {z1 z2:Int} (h1:Lvl lo W z1) (h2:Lvl lo W z2) (h3:Lvl lo W (z1+z2)) :
  adE (oM z1) (oE z1 lo) (oM z2) (oE z2 lo) = 0∧adM (oM z1) (oE z1 lo) (oM z2) (oE z2 lo) = oM (z1+z2)∧adX (oM z1) (oE z1 lo) (oM z2) (oE z2 lo) = oE (z1+z2) lo:=by
 have r1:=h1.right
 have r2:=h2.right
 have bE:∀ m e,dRt m e = true→-16384≤e∧e≤16384:=fun m e h=>by
  unfold dRt at h
  by_cases h0:m = 0
  ·rw [if_pos h0] at h;have:=of_decide_eq_true h;omega
  ·rw [if_neg h0,Bool.and_eq_true] at h;exact of_decide_eq_true h.2
 by_cases a0:z1 = 0
 ·subst a0
  rw [oM_zero,oE_zero,Int.zero_add]
  obtain ⟨p1,p2,p3⟩:=add_zero_l (oM z2) (oE z2 lo) (bE _ _ r2.1) r2.2
  rw [p1,p2,p3]
  exact dErr_odd _ _ r2.1
 by_cases b0:z2 = 0
 ·subst b0
  rw [oM_zero,oE_zero,Int.add_zero]
  obtain ⟨p1,p2,p3⟩:=add_zero_r (oM z1) (oE z1 lo) (bE _ _ r1.1) r1.2 (oM_ne z1 a0).1
  rw [p1,p2,p3]
  exact dErr_odd _ _ r1.1
 have sa:=(oM_ne z1 a0).1
 have sb:=(oM_ne z2 b0).1
 have x1:=oE_ne z1 lo a0
 have x2:=oE_ne z2 lo b0
 have t1:=h1.tzs a0
 have t2:=h2.tzs b0
 have hz1:=h1.tops
 obtain ⟨_,l1,l2,l3⟩:=h1
 have hl:=lowE_ne (oM z1) (oE z1 lo) (oM z2) (oE z2 lo) sa sb
 obtain ⟨l,hl'⟩:∃ l,min (oE z1 lo) (oE z2 lo) = l:=⟨_,rfl⟩
 rw [hl'] at hl
 have hl0:lo≤l:=by omega
 obtain ⟨k,hk⟩:∃ k:Nat,(k:Int) = l - lo:=⟨(l - lo).toNat,by omega⟩
 have hlk:lo+(k:Int) = l:=by omega
 have u1:up (oM z1) (oE z1 lo) l * 2 ^ k = z1:=by
  conv=>rhs;rw [← oM_level z1 lo a0]
  unfold up
  rw [Int.mul_assoc,← Int.pow_add]
  congr 2
  omega
 have u2:up (oM z2) (oE z2 lo) l * 2 ^ k = z2:=by
  conv=>rhs;rw [← oM_level z2 lo b0]
  unfold up
  rw [Int.mul_assoc,← Int.pow_add]
  congr 2
  omega
 have hz2:=h2.tops
 have dd1:oE z1 lo - l≤16384:=by clear hz1 hz2;omega
 have dd2:oE z2 lo - l≤16384:=by clear hz1 hz2;omega
 have le_of:∀ u z:Int,u * 2 ^ k = z→u.natAbs≤z.natAbs:=fun u z h=>by
  rw [← h,Int.natAbs_mul,Int.natAbs_pow]
  exact Nat.le_mul_of_pos_right _ (Nat.pow_pos (by decide))
 have hZ:sumZ (oM z1) (oE z1 lo) (oM z2) (oE z2 lo) * 2 ^ k = z1+z2:=by
  unfold sumZ
  rw [hl,Int.add_mul,u1,u2]
 have e1:upE (oM z1) (oE z1 lo) l = 0:=upE_ok _ _ _ (Nat.lt_of_le_of_lt (le_of _ _ u1) hz1) dd1
 have e2:upE (oM z2) (oE z2 lo) l = 0:=upE_ok _ _ _ (Nat.lt_of_le_of_lt (le_of _ _ u2) hz2) dd2
 have hzT:(sumZ (oM z1) (oE z1 lo) (oM z2) (oE z2 lo)).natAbs < TOP:=Nat.lt_of_le_of_lt (le_of _ _ hZ) h3.tops
 obtain ⟨p1,p2,p3⟩:=ad_fits (by rw [hl];exact e1) (by rw [hl];exact e2) hzT
 rw [p1,p2,p3,hl]
 generalize sumZ (oM z1) (oE z1 lo) (oM z2) (oE z2 lo) = Z at *
 have hs:=oM_scale Z k lo
 rw [hZ] at hs
 have hx:oE (z1+z2) lo = oE Z l:=by rw [hs.2,hlk]
 have r3:=h3.right.1
 rw [hs.1,hx] at r3 ⊢
 have hin:-32768≤l∧l≤32768:=by clear hz1 hz2 hzT;omega
 exact (told_make Z l hin).1 r3
theorem mul_level {lo1 lo2:Int} {W1 W2 W:Nat} {z1 z2:Int} (h3:Lvl (lo1+lo2) W (z1 * z2)) (h1:Lvl lo1 W1 z1) (h2:Lvl lo2 W2 z2) :
  (oM z1 * oM z2).natAbs < TOP∧dErr (oM z1 * oM z2) (oE z1 lo1+oE z2 lo2) = 0∧dM (oM z1 * oM z2) (oE z1 lo1+oE z2 lo2) = oM (z1 * z2)∧dX (oM z1 * oM z2) (oE z1 lo1+oE z2 lo2) = oE (z1 * z2) (lo1+lo2):=by
 have r3:=h3.right
 rw [← oM_mul]
 refine ⟨r3.2,?_⟩
 by_cases a0:z1 = 0
 ·subst a0
  have bE:-16384≤oE z2 lo2∧oE z2 lo2≤16384:=by
   by_cases b0:z2 = 0
   ·subst b0;rw [oE_zero];decide
   ·have:=h2.tzs b0
    rw [oE_ne _ _ b0]
    have:=h2.2
    omega
  rw [Int.zero_mul,oM_zero,oE_zero,oE_zero,Int.zero_add]
  have hk:dOk 0 (oE z2 lo2) = true:=by unfold dOk;rw [decide_eq_true (show -32768≤oE z2 lo2∧oE z2 lo2≤32768 by omega)];simp
  unfold dErr dM dX
  rw [hk]
  simp [oM_zero,oE_zero]
 by_cases b0:z2 = 0
 ·subst b0
  have bE:-16384≤oE z1 lo1∧oE z1 lo1≤16384:=by
   have:=h1.tzs a0
   rw [oE_ne _ _ a0]
   have:=h1.2
   omega
  rw [Int.mul_zero,oM_zero,oE_zero,oE_zero,Int.add_zero]
  have hk:dOk 0 (oE z1 lo1) = true:=by unfold dOk;rw [decide_eq_true (show -32768≤oE z1 lo1∧oE z1 lo1≤32768 by omega)];simp
  unfold dErr dM dX
  rw [hk]
  simp [oM_zero,oE_zero]
 have hx:oE z1 lo1+oE z2 lo2 = oE (z1 * z2) (lo1+lo2):=by
  have h0:z1 * z2 ≠ 0:=fun e=>by rcases Int.mul_eq_zero.1 e with e | e;exact a0 e;exact b0 e
  rw [oE_ne _ _ a0,oE_ne _ _ b0,oE_ne _ _ h0,tz_mul2 z1 z2 a0 b0]
  omega
 rw [hx]
 exact dErr_odd _ _ r3.1
end Go.Proofs.YtdhmglmccafbnaaGreatDoor
namespace Go.Proofs.YtdhmglmccafbnaaGreatDoor
open Go.RowKit
theorem addN {w:World} {v u:Value} {lo:Int} {W:Nat} {z1 z2:Int} (hv:IsDy w v (oM z1) (oE z1 lo)) (hu:IsDy w u (oM z2) (oE z2 lo)) (h1:Lvl lo W z1) (h2:Lvl lo W z2) (h3:Lvl lo W (z1+z2)) (t:Tab w) :
  Calls Tryz.prog 295 #[v,u] w fun r w'=>DyR w' r 0 (oM (z1+z2)) (oE (z1+z2) lo)∧Below w.heap.size w w':=by
 obtain ⟨na,ao,ca,A,rfl,a1,a2,a3,a4,a5⟩:=hv.right h1.right.2
 obtain ⟨nb,bo,cb,B,rfl,b1,b2,b3,b4,b5⟩:=hu.right h2.right.2
 rw [h1.right.1] at a5
 rw [h2.right.1] at b5
 have:=dadd_right na nb ao bo ca cb A B _ _ w a1 b1 a5 b5 t
 obtain ⟨e1,e2,e3⟩:=ad_level h1 h2 h3
 rwa [a3,b3,e1,e2,e3] at this
theorem mulN {w:World} {v u:Value} {lo1 lo2:Int} {W1 W2 W:Nat} {z1 z2:Int} (hv:IsDy w v (oM z1) (oE z1 lo1)) (hu:IsDy w u (oM z2) (oE z2 lo2)) (h1:Lvl lo1 W1 z1) (h2:Lvl lo2 W2 z2) (h3:Lvl (lo1+lo2) W (z1 * z2)) (t:Tab w) :
  Calls Tryz.prog 278 #[v,u] w fun r w'=>DyR w' r 0 (oM (z1 * z2)) (oE (z1 * z2) (lo1+lo2))∧Below w.heap.size w w':=by
 obtain ⟨na,ao,ca,A,rfl,a1,a2,a3,a4,a5⟩:=hv.right h1.right.2
 obtain ⟨nb,bo,cb,B,rfl,b1,b2,b3,b4,b5⟩:=hu.right h2.right.2
 rw [h1.right.1] at a5
 rw [h2.right.1] at b5
 obtain ⟨e0,e1,e2,e3⟩:=mul_level h3 h1 h2
 have:=dmul_right na nb ao bo ca cb A B _ _ w a1 b1 a5 b5 (by rw [a3,b3];exact e0) t
 rwa [a3,b3,e1,e2,e3] at this
end Go.Proofs.YtdhmglmccafbnaaGreatDoor
namespace Go.Proofs.YtdhmglmccafbnaaGreatDoor
open Go.RowKit
def fD (b:Nat):Int:=oM (fM b)
def fX (b:Nat):Int:=oE (fM b) (fE b)
theorem fM_tz (b:Nat) (h:fM b ≠ 0):tz (fM b).natAbs < 53:=tz_lt _ _ (by omega) (by rw [p53];exact fM_lt b)
theorem fM_ok (b:Nat):dErr (fM b) (fE b) = 0∧dM (fM b) (fE b) = fD b∧dX (fM b) (fE b) = fX b:=by
 have h1:=fE_in b
 have hk:dOk (fM b) (fE b) = true:=by
  unfold dOk
  rw [decide_eq_true (by omega)]
  by_cases h0:fM b = 0
  ·rw [decide_eq_true h0];rfl
  ·have:=fM_tz b h0
   rw [decide_eq_true (p:=-16384≤_∧_) (by omega)]
   simp
 unfold dErr dM dX
 rw [if_pos hk,if_pos hk,if_pos hk]
 exact ⟨rfl,rfl,rfl⟩
theorem fM_TOP (b:Nat):(fM b).natAbs < TOP:=lt_TOP (k:=53) (by rw [p53];exact fM_lt b) (by decide)
theorem value_none (b:Nat) (w:World) (h:b < 18446744073709551616) (hf:fFin b = false) :
  Calls Tryz.prog 207 #[.int .u64 b] w fun r w'=>DyR w' r 7 0 0∧Below w.heap.size w w':=by
 have CF:=hide (fun w'=>sfinite_any b w' h)
 rw [hf] at CF
 clear hf h
 have hb0:Below w.heap.size w (w.alloc (.cells #[.bool false,.slice none 0 0,.int .i64 0] 41)):=(Below.refl _ _).alloc (Nat.le_refl _) _
 have B0:=hide hb0;have X2:=hide (Box3.new w (.bool false) (.slice none 0 0) (.int .i64 0))
 clear hb0
 go_enter Tryz.func207,Tryz.ntmps207
 go_wp2_with fail
 refine (uH CF _).mono ?_
 rintro r w1 ⟨rfl,hb1⟩
 have x2:=(uH X2).all hb1
 have B1:=hide ((uH B0).trans (hb1.mono (uH B0).size))
 have y0:=x2.c0;have y1:=x2.c1;have y2:=x2.c2;have f0:=x2.free 0;have f1:=x2.free 1;have f2:=x2.free 2
 clear hb1 x2 X2 B0 CF
 go_wp2
 exact bodyPost_ret (v:=.tuple #[.agg #[.bool false,.slice none 0 0,.int .i64 0],.int .i64 7]) (by simp [results,Tryz.results207,go_sem,y0,y1,y2]) rfl ⟨⟨_,rfl,IsDy.zero _ _ _⟩,below_put3 (uH B1) (Nat.le_refl _) _ _ _⟩
theorem value_some (b:Nat) (w:World) (h:b < 18446744073709551616) (hf:fFin b = true) (hT:Tab w) :
  Calls Tryz.prog 207 #[.int .u64 b] w fun r w'=>DyR w' r 0 (fD b) (fX b)∧Below w.heap.size w w':=by
 have CF:=hide (fun w'=>sfinite_any b w' h)
 rw [hf] at CF
 have CS:=hide (fun w'=>split_any b w' h)
 have CP:=hide (fun w'=>parts_any b w')
 have CO:=hide (fun w'=>of_any (fM b) w' (by have:=fM_lt b;omega) (by have:=fM_lt b;omega))
 obtain ⟨k1,k2,k3⟩:=fM_ok b
 have CM:=hide (fun w' v B (hv:IsNum B w' v (fM b)) (t:Tab w')=>make_num (fE b) hv (fM_TOP b) (by have:=fE_in b;omega) t)
 rw [k1,k2,k3] at CM
 clear k1 k2 k3
 unfold fV at *
 generalize fM b = m at *
 generalize fE b = e at *
 generalize fD b = M at *
 generalize fX b = X at *
 generalize fS b = s at *
 generalize fP b = p at *
 generalize fF b = f at *
 clear hf h
 have hb0:Below w.heap.size w (w.alloc (.cells #[.bool false,.slice none 0 0,.int .i64 0] 41)):=(Below.refl _ _).alloc (Nat.le_refl _) _
 have B0:=hide hb0;have X2:=hide (Box3.new w (.bool false) (.slice none 0 0) (.int .i64 0))
 clear hb0
 go_enter Tryz.func207,Tryz.ntmps207
 go_wp2_with fail
 refine (uH CF _).mono ?_
 rintro r w1 ⟨rfl,hb1⟩
 have X3:=hide ((uH X2).all hb1)
 have B1:=hide ((uH B0).trans (hb1.mono (uH B0).size))
 clear hb1 X2 B0 CF
 go_wp2_with fail
 refine (uH CS _).mono ?_
 rintro r w2 ⟨rfl,hb2⟩
 have X4:=hide ((uH X3).all hb2)
 have B2:=hide ((uH B1).trans (hb2.mono (uH B1).size))
 clear hb2 X3 B1 CS
 go_wp2_with fail
 refine (uH CP _).mono ?_
 rintro r w3 ⟨rfl,hb3⟩
 have X5:=hide ((uH X4).all hb3)
 have B3:=hide ((uH B2).trans (hb3.mono (uH B2).size))
 clear hb3 X4 B2 CP
 go_wp2_with fail
 refine (uH CO _).mono ?_
 rintro r w4 ⟨v,rfl,hv,hb4⟩
 have X6:=hide ((uH X5).all hb4)
 have b4:=(uH B3).trans (hb4.mono (uH B3).size)
 have B4:=hide b4
 have HT:=hide (hT.all b4)
 have HV:=hide hv
 clear hb4 X5 B3 CO b4 hv
 go_wp2_with fail
 refine (uH CM _ _ _ (uH HV) (uH HT)).mono ?_
 rintro r w5 ⟨u,rfl,hu,hb5⟩
 have x7:=(uH X6).all hb5
 have X7:=hide x7
 have B5:=hide ((uH B4).trans (hb5.mono (uH B4).size))
 obtain ⟨n2,a2,c2,L2,rfl,j2⟩:=hu
 have J:=hide (show IsDy w5 (.agg #[.bool n2,.slice a2 L2.length c2,.int .i64 X]) M X from ⟨n2,a2,c2,L2,rfl,j2⟩)
 have y0:=x7.c0;have y1:=x7.c1;have y2:=x7.c2;have f0:=x7.free 0;have f1:=x7.free 1;have f2:=x7.free 2
 clear hb5 x7 X6 B4 CM j2
 go_wp2
 exact bodyPost_ret (v:=.tuple #[.agg #[.bool n2,.slice a2 L2.length c2,.int .i64 X],.int .i64 0]) (by simp [results,Tryz.results207,go_sem,y0,y1,y2]) rfl ⟨⟨_,rfl,(uH J).put3 (uH X7) _ _ _⟩,below_put3 (uH B5) (Nat.le_refl _) _ _ _⟩
end Go.Proofs.YtdhmglmccafbnaaGreatDoor
namespace Go.Proofs.YtdhmglmccafbnaaGreatDoor
open Go.RowKit
theorem refNeg_num {M B:Nat} {w:World} {v:Value} {z:Int} (hv:IsNumM M B w v z) (hM:M≤1000000) :
  Calls Tryz.prog 119 #[v] w fun e w'=>∃ u,e = .returned u∧IsNumM M 0 w' u (-z)∧Below w.heap.size w w':=by
 obtain ⟨n,a,c,L,rfl,h2,h3,h4,h5,h6,h7⟩:=hv
 refine (refNeg_any n a c L w h2 (by omega)).mono ?_
 rintro e w' ⟨u,rfl,hu,hb⟩
 rw [sval_IsNum h5 h6] at hu
 exact ⟨u,rfl,hu.more h7,hb⟩
def VSt (w W:World) (g:Nat) (n:Bool) (a:Option Addr) (l c:Nat) (z:Int):Prop :=
 Below w.heap.size w W∧Box3 W w.heap.size (.bool false) (.slice none 0 0) (.int .i64 0)∧Box2 W g (.bool n) (.slice a l c)∧w.heap.size < g∧IsNumM 2 0 W (.agg #[.bool n,.slice a l c]) z
theorem IsNumM.zeroB {M B:Nat} {w:World} {v:Value} {x:Int} (h:IsNumM M B w v x):IsNumM M 0 w v x:=by
 obtain ⟨neg,ao,cap,L,h1,h2,h3,h4⟩:=h
 exact ⟨neg,ao,cap,L,h1,h2,NewAt.zero h2,h4⟩
theorem IsNumM.box {M B:Nat} {w:World} {v:Value} {x:Int} (h:IsNumM M B w v x) {g:Nat} {y:Bool} {a:Option Addr} {n c:Nat} (hx:Box2 w g (.bool y) (.slice a n c)) (u u':Value):IsNumM M B ((w.setCell ⟨g,0,none⟩ u).setCell ⟨g,1,none⟩ u') v x:=by
 obtain ⟨neg,ao,cap,L,h1,h2,h3⟩:=h
 exact ⟨neg,ao,cap,L,h1,h2.box hx u u',h3⟩
theorem VSt.below {w W W':World} {g:Nat} {n:Bool} {a:Option Addr} {l c:Nat} {z:Int} (h:VSt w W g n a l c z) (hb:Below W.heap.size W W'):VSt w W' g n a l c z :=
 ⟨h.1.trans (hb.mono h.1.size),h.2.1.all hb,h.2.2.1.all hb,h.2.2.2.1,h.2.2.2.2.below hb⟩
theorem VSt.put {w W:World} {g:Nat} {n n':Bool} {a a':Option Addr} {l c l' c':Nat} {z z':Int} (h:VSt w W g n a l c z) (hv:IsNumM 2 0 W (.agg #[.bool n',.slice a' l' c']) z') :
  VSt w ((W.setCell ⟨g,0,none⟩ (.bool n')).setCell ⟨g,1,none⟩ (.slice a' l' c')) g n' a' l' c' z':=by
 obtain ⟨h1,h2,h3,h4,h5⟩:=h
 exact ⟨below_put2 h1 (by omega) _ _,(h2.other (by simp;omega) _).other (by simp;omega) _,h3.put _ _,h4,hv.box h3 _ _⟩
theorem rvalue_zo (b:Nat) (f:Nat) (a0 m e X Y:Int) (w:World) (hf0:IntKind.i64.wrap (f:Int) = a0)
  (CF:∀ w',Calls Tryz.prog 116 #[.int .u64 b] w' fun r w''=>r = .returned (.int .u64 f)∧w' = w'')
  (CP:∀ w',Calls Tryz.prog 117 #[.int .u64 b] w' fun r w''=>r = .returned (.int .i64 0)∧w' = w'')
  (CN:∀ w',Calls Tryz.prog 118 #[.int .u64 b] w' fun r w''=>r = .returned (.bool false)∧w' = w'')
  (CO:∀ w',Calls Tryz.prog 46 #[.int .i64 a0] w' fun r w''=>∃ v,r = .returned v∧IsNumM 2 w'.heap.size w'' v a0∧Below w'.heap.size w' w'')
  (CV:∀ w' v,IsNumM 2 0 w' v m→Calls Tryz.prog 45 #[v,.int .i64 e] w' fun r w''=>∃ u,r = .returned u∧IsDy w'' u X Y∧Below w'.heap.size w' w'')
  (he:e = -1074) (hm:a0 = m)
  : Calls Tryz.prog 65 #[.int .u64 b] w fun r w'=>∃ u,r = .returned u∧IsDy w' u X Y∧Below w.heap.size w w':=by
 subst he hm
 have KF:=hide CF;have KP:=hide CP;have KN:=hide CN;have KO:=hide CO;have KV:=hide CV
 clear CF CP CN CO CV
 have hb0:Below w.heap.size w (w.alloc (.cells #[.bool false,.slice none 0 0,.int .i64 0] 41)):=(Below.refl _ _).alloc (Nat.le_refl _) _
 have B0:=hide hb0;have X2:=hide (Box3.new w (.bool false) (.slice none 0 0) (.int .i64 0))
 clear hb0
 go_enter Tryz.func65,Tryz.ntmps65
 go_wp2_with (go_at_call 116;refine (uH KF _).mono ?_;rintro r w2 ⟨rfl,rfl⟩)
 refine (uH KO _).mono ?_
 rintro r w1 ⟨v,rfl,hv,hb1⟩
 obtain ⟨n1,a1',c1,L1,rfl,i1⟩:=hv
 have b1:=(uH B0).trans (hb1.mono (uH B0).size)
 have v1:VSt w (w1.alloc (.cells #[.bool n1,.slice a1' L1.length c1] 39)) w1.heap.size n1 a1' L1.length c1 a0 :=
  ⟨b1.alloc b1.size _,((uH X2).all hb1).old _,Box2.new _ _ _,by have:=hb1.size;simp at this;omega,(IsNumM.zeroB ⟨n1,a1',c1,L1,rfl,i1⟩).below ((Below.refl _ _).alloc (Nat.le_refl _) _)⟩
 have V1:=hide v1
 clear b1 v1 hb1 i1 B0 X2 KO
 go_upto_region 3 with (fail)
 refine at_world (fun W=>VSt w W w1.heap.size n1 a1' L1.length c1 a0) (uH V1) ?_
 clear V1
 intro W1 v1
 generalize w1.heap.size = g at *
 generalize L1.length = l1 at *
 have VV:=hide v1
 have y0:=v1.2.2.1.c0;have y1:=v1.2.2.1.c1;have f0:=v1.2.2.1.free 0;have f1:=v1.2.2.1.free 1
 clear v1
 go_wp2_with (first | (go_at_call 117;refine (uH KP _).mono ?_;rintro r w2 ⟨rfl,rfl⟩) | (go_at_call 118;refine (uH KN _).mono ?_;rintro r w2 ⟨rfl,rfl⟩))
 refine (uH KV _ _ (uH VV).2.2.2.2).mono ?_
 rintro r w9 ⟨u,rfl,hu,hb9⟩
 have v9:=(uH VV).below hb9
 have x9:=v9.2.1
 have V9:=hide v9
 obtain ⟨n9,a9,c9,L9,rfl,j9⟩:=hu
 have J:=hide (show IsDy w9 (.agg #[.bool n9,.slice a9 L9.length c9,.int .i64 Y]) X Y from ⟨n9,a9,c9,L9,rfl,j9⟩)
 clear y0 y1 f0 f1
 have y0:=x9.c0;have y1:=x9.c1;have y2:=x9.c2;have f0:=x9.free 0;have f1:=x9.free 1;have f2:=x9.free 2
 clear hb9 v9 x9 VV j9
 go_wp2
 exact bodyPost_ret (v:=.agg #[.bool n9,.slice a9 L9.length c9,.int .i64 Y]) (by simp [results,Tryz.results65,go_sem,y0,y1,y2]) rfl ⟨_,rfl,(uH J).put3 (uH V9).2.1 _ _ _,below_put3 (uH V9).1 (Nat.le_refl _) _ _ _⟩
theorem rvalue_zn (b:Nat) (f:Nat) (a0 m e X Y:Int) (w:World) (hf0:IntKind.i64.wrap (f:Int) = a0)
  (CF:∀ w',Calls Tryz.prog 116 #[.int .u64 b] w' fun r w''=>r = .returned (.int .u64 f)∧w' = w'')
  (CP:∀ w',Calls Tryz.prog 117 #[.int .u64 b] w' fun r w''=>r = .returned (.int .i64 0)∧w' = w'')
  (CN:∀ w',Calls Tryz.prog 118 #[.int .u64 b] w' fun r w''=>r = .returned (.bool true)∧w' = w'')
  (CO:∀ w',Calls Tryz.prog 46 #[.int .i64 a0] w' fun r w''=>∃ v,r = .returned v∧IsNumM 2 w'.heap.size w'' v a0∧Below w'.heap.size w' w'')
  (CV:∀ w' v,IsNumM 2 0 w' v (-m)→Calls Tryz.prog 45 #[v,.int .i64 e] w' fun r w''=>∃ u,r = .returned u∧IsDy w'' u X Y∧Below w'.heap.size w' w'')
  (he:e = -1074) (hm:a0 = m)
  : Calls Tryz.prog 65 #[.int .u64 b] w fun r w'=>∃ u,r = .returned u∧IsDy w' u X Y∧Below w.heap.size w w':=by
 subst he hm
 have KF:=hide CF;have KP:=hide CP;have KN:=hide CN;have KO:=hide CO;have KV:=hide CV
 clear CF CP CN CO CV
 have hb0:Below w.heap.size w (w.alloc (.cells #[.bool false,.slice none 0 0,.int .i64 0] 41)):=(Below.refl _ _).alloc (Nat.le_refl _) _
 have B0:=hide hb0;have X2:=hide (Box3.new w (.bool false) (.slice none 0 0) (.int .i64 0))
 clear hb0
 go_enter Tryz.func65,Tryz.ntmps65
 go_wp2_with (go_at_call 116;refine (uH KF _).mono ?_;rintro r w2 ⟨rfl,rfl⟩)
 refine (uH KO _).mono ?_
 rintro r w1 ⟨v,rfl,hv,hb1⟩
 obtain ⟨n1,a1',c1,L1,rfl,i1⟩:=hv
 have b1:=(uH B0).trans (hb1.mono (uH B0).size)
 have v1:VSt w (w1.alloc (.cells #[.bool n1,.slice a1' L1.length c1] 39)) w1.heap.size n1 a1' L1.length c1 a0 :=
  ⟨b1.alloc b1.size _,((uH X2).all hb1).old _,Box2.new _ _ _,by have:=hb1.size;simp at this;omega,(IsNumM.zeroB ⟨n1,a1',c1,L1,rfl,i1⟩).below ((Below.refl _ _).alloc (Nat.le_refl _) _)⟩
 have V1:=hide v1
 clear b1 v1 hb1 i1 B0 X2 KO
 go_upto_region 3 with (fail)
 refine at_world (fun W=>VSt w W w1.heap.size n1 a1' L1.length c1 a0) (uH V1) ?_
 clear V1
 intro W1 v1
 generalize w1.heap.size = g at *
 generalize L1.length = l1 at *
 have VV:=hide v1
 have y0:=v1.2.2.1.c0;have y1:=v1.2.2.1.c1;have f0:=v1.2.2.1.free 0;have f1:=v1.2.2.1.free 1
 clear v1
 go_wp2_with (first | (go_at_call 117;refine (uH KP _).mono ?_;rintro r w2 ⟨rfl,rfl⟩) | (go_at_call 118;refine (uH KN _).mono ?_;rintro r w2 ⟨rfl,rfl⟩))
 refine (refNeg_num (uH VV).2.2.2.2 (by decide)).mono ?_
 rintro r w7 ⟨v,rfl,hv,hb7⟩
 have v5:=(uH VV).below hb7
 clear VV hb7 y0 y1 f0 f1
 obtain ⟨n7,a7,c7,L7,rfl,i7⟩:=hv
 have v6:=v5.put ⟨n7,a7,c7,L7,rfl,i7⟩
 have V6:=hide v6
 have y0:=v5.2.2.1.c0;have y1:=v5.2.2.1.c1;have f0:=v5.2.2.1.free 0;have f1:=v5.2.2.1.free 1
 clear v5 v6 i7
 go_upto_region 8 with (fail)
 refine at_world (fun W=>VSt w W g n7 a7 L7.length c7 _) (uH V6) ?_
 clear V6 y0 y1 f0 f1
 intro W7 v5
 generalize L7.length = l7 at *
 have VV:=hide v5
 have y0:=v5.2.2.1.c0;have y1:=v5.2.2.1.c1;have f0:=v5.2.2.1.free 0;have f1:=v5.2.2.1.free 1
 clear v5
 go_wp2_with fail
 refine (uH KV _ _ (uH VV).2.2.2.2).mono ?_
 rintro r w9 ⟨u,rfl,hu,hb9⟩
 have v9:=(uH VV).below hb9
 have x9:=v9.2.1
 have V9:=hide v9
 obtain ⟨n9,a9,c9,L9,rfl,j9⟩:=hu
 have J:=hide (show IsDy w9 (.agg #[.bool n9,.slice a9 L9.length c9,.int .i64 Y]) X Y from ⟨n9,a9,c9,L9,rfl,j9⟩)
 clear y0 y1 f0 f1
 have y0:=x9.c0;have y1:=x9.c1;have y2:=x9.c2;have f0:=x9.free 0;have f1:=x9.free 1;have f2:=x9.free 2
 clear hb9 v9 x9 VV j9
 go_wp2
 exact bodyPost_ret (v:=.agg #[.bool n9,.slice a9 L9.length c9,.int .i64 Y]) (by simp [results,Tryz.results65,go_sem,y0,y1,y2]) rfl ⟨_,rfl,(uH J).put3 (uH V9).2.1 _ _ _,below_put3 (uH V9).1 (Nat.le_refl _) _ _ _⟩
theorem rvalue_po (b:Nat) (p:Nat) (f:Nat) (a0 a1 m e X Y:Int) (w:World) (h1:0 < p) (hf0:IntKind.i64.wrap (f:Int) = a0)
  (CF:∀ w',Calls Tryz.prog 116 #[.int .u64 b] w' fun r w''=>r = .returned (.int .u64 f)∧w' = w'')
  (CP:∀ w',Calls Tryz.prog 117 #[.int .u64 b] w' fun r w''=>r = .returned (.int .i64 p)∧w' = w'')
  (CN:∀ w',Calls Tryz.prog 118 #[.int .u64 b] w' fun r w''=>r = .returned (.bool false)∧w' = w'')
  (CO:∀ w',Calls Tryz.prog 46 #[.int .i64 a0] w' fun r w''=>∃ v,r = .returned v∧IsNumM 2 w'.heap.size w'' v a0∧Below w'.heap.size w' w'')
  (CV:∀ w' v,IsNumM 2 0 w' v m→Calls Tryz.prog 45 #[v,.int .i64 e] w' fun r w''=>∃ u,r = .returned u∧IsDy w'' u X Y∧Below w'.heap.size w' w'')
  (w1:IntKind.u64.wrap ((f:Int)+4503599627370496) = a1) (w2:IntKind.i64.wrap a1 = m) (w3:IntKind.i64.wrap ((p:Int) - 1075) = e)
  (C1:∀ w',Calls Tryz.prog 46 #[.int .i64 m] w' fun r w''=>∃ v,r = .returned v∧IsNumM 2 w'.heap.size w'' v m∧Below w'.heap.size w' w'')
  : Calls Tryz.prog 65 #[.int .u64 b] w fun r w'=>∃ u,r = .returned u∧IsDy w' u X Y∧Below w.heap.size w w':=by
 have h1':decide (0 < p) = true:=decide_eq_true h1
 have KF:=hide CF;have KP:=hide CP;have KN:=hide CN;have KO:=hide CO;have KV:=hide CV
 clear CF CP CN CO CV
 have K1:=hide C1
 clear C1
 have hb0:Below w.heap.size w (w.alloc (.cells #[.bool false,.slice none 0 0,.int .i64 0] 41)):=(Below.refl _ _).alloc (Nat.le_refl _) _
 have B0:=hide hb0;have X2:=hide (Box3.new w (.bool false) (.slice none 0 0) (.int .i64 0))
 clear hb0
 go_enter Tryz.func65,Tryz.ntmps65
 go_wp2_with (go_at_call 116;refine (uH KF _).mono ?_;rintro r w2 ⟨rfl,rfl⟩)
 refine (uH KO _).mono ?_
 rintro r w1 ⟨v,rfl,hv,hb1⟩
 obtain ⟨n1,a1',c1,L1,rfl,i1⟩:=hv
 have b1:=(uH B0).trans (hb1.mono (uH B0).size)
 have v1:VSt w (w1.alloc (.cells #[.bool n1,.slice a1' L1.length c1] 39)) w1.heap.size n1 a1' L1.length c1 a0 :=
  ⟨b1.alloc b1.size _,((uH X2).all hb1).old _,Box2.new _ _ _,by have:=hb1.size;simp at this;omega,(IsNumM.zeroB ⟨n1,a1',c1,L1,rfl,i1⟩).below ((Below.refl _ _).alloc (Nat.le_refl _) _)⟩
 have V1:=hide v1
 clear b1 v1 hb1 i1 B0 X2 KO
 go_upto_region 3 with (fail)
 refine at_world (fun W=>VSt w W w1.heap.size n1 a1' L1.length c1 a0) (uH V1) ?_
 clear V1
 intro W1 v1
 generalize w1.heap.size = g at *
 generalize L1.length = l1 at *
 have VV:=hide v1
 clear v1
 go_wp2_with (first | (go_at_call 117;refine (uH KP _).mono ?_;rintro r w2 ⟨rfl,rfl⟩) | (go_at_call 116;refine (uH KF _).mono ?_;rintro r w2 ⟨rfl,rfl⟩))
 refine (uH K1 _).mono ?_
 rintro r w5 ⟨v,rfl,hv,hb5⟩
 have v5:=(uH VV).below hb5
 clear VV hb5 K1
 obtain ⟨n5,a5,c5,L5,rfl,i5⟩:=hv
 have v6:=v5.put (IsNumM.zeroB ⟨n5,a5,c5,L5,rfl,i5⟩)
 have V6:=hide v6
 have y0:=v5.2.2.1.c0;have y1:=v5.2.2.1.c1;have f0:=v5.2.2.1.free 0;have f1:=v5.2.2.1.free 1
 clear v5 v6 i5
 go_upto_region 5 with (fail)
 refine at_world (fun W=>VSt w W g n5 a5 L5.length c5 m) (uH V6) ?_
 clear V6 y0 y1 f0 f1
 intro W5 v5
 generalize L5.length = l5 at *
 have VV:=hide v5
 have y0:=v5.2.2.1.c0;have y1:=v5.2.2.1.c1;have f0:=v5.2.2.1.free 0;have f1:=v5.2.2.1.free 1
 clear v5
 go_wp2_with (first | (go_at_call 117;refine (uH KP _).mono ?_;rintro r w2 ⟨rfl,rfl⟩) | (go_at_call 118;refine (uH KN _).mono ?_;rintro r w2 ⟨rfl,rfl⟩))
 refine (uH KV _ _ (uH VV).2.2.2.2).mono ?_
 rintro r w9 ⟨u,rfl,hu,hb9⟩
 have v9:=(uH VV).below hb9
 have x9:=v9.2.1
 have V9:=hide v9
 obtain ⟨n9,a9,c9,L9,rfl,j9⟩:=hu
 have J:=hide (show IsDy w9 (.agg #[.bool n9,.slice a9 L9.length c9,.int .i64 Y]) X Y from ⟨n9,a9,c9,L9,rfl,j9⟩)
 clear y0 y1 f0 f1
 have y0:=x9.c0;have y1:=x9.c1;have y2:=x9.c2;have f0:=x9.free 0;have f1:=x9.free 1;have f2:=x9.free 2
 clear hb9 v9 x9 VV j9
 go_wp2
 exact bodyPost_ret (v:=.agg #[.bool n9,.slice a9 L9.length c9,.int .i64 Y]) (by simp [results,Tryz.results65,go_sem,y0,y1,y2]) rfl ⟨_,rfl,(uH J).put3 (uH V9).2.1 _ _ _,below_put3 (uH V9).1 (Nat.le_refl _) _ _ _⟩
theorem rvalue_pn (b:Nat) (p:Nat) (f:Nat) (a0 a1 m e X Y:Int) (w:World) (h1:0 < p) (hf0:IntKind.i64.wrap (f:Int) = a0)
  (CF:∀ w',Calls Tryz.prog 116 #[.int .u64 b] w' fun r w''=>r = .returned (.int .u64 f)∧w' = w'')
  (CP:∀ w',Calls Tryz.prog 117 #[.int .u64 b] w' fun r w''=>r = .returned (.int .i64 p)∧w' = w'')
  (CN:∀ w',Calls Tryz.prog 118 #[.int .u64 b] w' fun r w''=>r = .returned (.bool true)∧w' = w'')
  (CO:∀ w',Calls Tryz.prog 46 #[.int .i64 a0] w' fun r w''=>∃ v,r = .returned v∧IsNumM 2 w'.heap.size w'' v a0∧Below w'.heap.size w' w'')
  (CV:∀ w' v,IsNumM 2 0 w' v (-m)→Calls Tryz.prog 45 #[v,.int .i64 e] w' fun r w''=>∃ u,r = .returned u∧IsDy w'' u X Y∧Below w'.heap.size w' w'')
  (w1:IntKind.u64.wrap ((f:Int)+4503599627370496) = a1) (w2:IntKind.i64.wrap a1 = m) (w3:IntKind.i64.wrap ((p:Int) - 1075) = e)
  (C1:∀ w',Calls Tryz.prog 46 #[.int .i64 m] w' fun r w''=>∃ v,r = .returned v∧IsNumM 2 w'.heap.size w'' v m∧Below w'.heap.size w' w'')
  : Calls Tryz.prog 65 #[.int .u64 b] w fun r w'=>∃ u,r = .returned u∧IsDy w' u X Y∧Below w.heap.size w w':=by
 have h1':decide (0 < p) = true:=decide_eq_true h1
 have KF:=hide CF;have KP:=hide CP;have KN:=hide CN;have KO:=hide CO;have KV:=hide CV
 clear CF CP CN CO CV
 have K1:=hide C1
 clear C1
 have hb0:Below w.heap.size w (w.alloc (.cells #[.bool false,.slice none 0 0,.int .i64 0] 41)):=(Below.refl _ _).alloc (Nat.le_refl _) _
 have B0:=hide hb0;have X2:=hide (Box3.new w (.bool false) (.slice none 0 0) (.int .i64 0))
 clear hb0
 go_enter Tryz.func65,Tryz.ntmps65
 go_wp2_with (go_at_call 116;refine (uH KF _).mono ?_;rintro r w2 ⟨rfl,rfl⟩)
 refine (uH KO _).mono ?_
 rintro r w1 ⟨v,rfl,hv,hb1⟩
 obtain ⟨n1,a1',c1,L1,rfl,i1⟩:=hv
 have b1:=(uH B0).trans (hb1.mono (uH B0).size)
 have v1:VSt w (w1.alloc (.cells #[.bool n1,.slice a1' L1.length c1] 39)) w1.heap.size n1 a1' L1.length c1 a0 :=
  ⟨b1.alloc b1.size _,((uH X2).all hb1).old _,Box2.new _ _ _,by have:=hb1.size;simp at this;omega,(IsNumM.zeroB ⟨n1,a1',c1,L1,rfl,i1⟩).below ((Below.refl _ _).alloc (Nat.le_refl _) _)⟩
 have V1:=hide v1
 clear b1 v1 hb1 i1 B0 X2 KO
 go_upto_region 3 with (fail)
 refine at_world (fun W=>VSt w W w1.heap.size n1 a1' L1.length c1 a0) (uH V1) ?_
 clear V1
 intro W1 v1
 generalize w1.heap.size = g at *
 generalize L1.length = l1 at *
 have VV:=hide v1
 clear v1
 go_wp2_with (first | (go_at_call 117;refine (uH KP _).mono ?_;rintro r w2 ⟨rfl,rfl⟩) | (go_at_call 116;refine (uH KF _).mono ?_;rintro r w2 ⟨rfl,rfl⟩))
 refine (uH K1 _).mono ?_
 rintro r w5 ⟨v,rfl,hv,hb5⟩
 have v5:=(uH VV).below hb5
 clear VV hb5 K1
 obtain ⟨n5,a5,c5,L5,rfl,i5⟩:=hv
 have v6:=v5.put (IsNumM.zeroB ⟨n5,a5,c5,L5,rfl,i5⟩)
 have V6:=hide v6
 have y0:=v5.2.2.1.c0;have y1:=v5.2.2.1.c1;have f0:=v5.2.2.1.free 0;have f1:=v5.2.2.1.free 1
 clear v5 v6 i5
 go_upto_region 5 with (fail)
 refine at_world (fun W=>VSt w W g n5 a5 L5.length c5 m) (uH V6) ?_
 clear V6 y0 y1 f0 f1
 intro W5 v5
 generalize L5.length = l5 at *
 have VV:=hide v5
 have y0:=v5.2.2.1.c0;have y1:=v5.2.2.1.c1;have f0:=v5.2.2.1.free 0;have f1:=v5.2.2.1.free 1
 clear v5
 go_wp2_with (first | (go_at_call 117;refine (uH KP _).mono ?_;rintro r w2 ⟨rfl,rfl⟩) | (go_at_call 118;refine (uH KN _).mono ?_;rintro r w2 ⟨rfl,rfl⟩))
 refine (refNeg_num (uH VV).2.2.2.2 (by decide)).mono ?_
 rintro r w7 ⟨v,rfl,hv,hb7⟩
 have v5:=(uH VV).below hb7
 clear VV hb7 y0 y1 f0 f1
 obtain ⟨n7,a7,c7,L7,rfl,i7⟩:=hv
 have v6:=v5.put ⟨n7,a7,c7,L7,rfl,i7⟩
 have V6:=hide v6
 have y0:=v5.2.2.1.c0;have y1:=v5.2.2.1.c1;have f0:=v5.2.2.1.free 0;have f1:=v5.2.2.1.free 1
 clear v5 v6 i7
 go_upto_region 8 with (fail)
 refine at_world (fun W=>VSt w W g n7 a7 L7.length c7 _) (uH V6) ?_
 clear V6 y0 y1 f0 f1
 intro W7 v5
 generalize L7.length = l7 at *
 have VV:=hide v5
 have y0:=v5.2.2.1.c0;have y1:=v5.2.2.1.c1;have f0:=v5.2.2.1.free 0;have f1:=v5.2.2.1.free 1
 clear v5
 go_wp2_with fail
 refine (uH KV _ _ (uH VV).2.2.2.2).mono ?_
 rintro r w9 ⟨u,rfl,hu,hb9⟩
 have v9:=(uH VV).below hb9
 have x9:=v9.2.1
 have V9:=hide v9
 obtain ⟨n9,a9,c9,L9,rfl,j9⟩:=hu
 have J:=hide (show IsDy w9 (.agg #[.bool n9,.slice a9 L9.length c9,.int .i64 Y]) X Y from ⟨n9,a9,c9,L9,rfl,j9⟩)
 clear y0 y1 f0 f1
 have y0:=x9.c0;have y1:=x9.c1;have y2:=x9.c2;have f0:=x9.free 0;have f1:=x9.free 1;have f2:=x9.free 2
 clear hb9 v9 x9 VV j9
 go_wp2
 exact bodyPost_ret (v:=.agg #[.bool n9,.slice a9 L9.length c9,.int .i64 Y]) (by simp [results,Tryz.results65,go_sem,y0,y1,y2]) rfl ⟨_,rfl,(uH J).put3 (uH V9).2.1 _ _ _,below_put3 (uH V9).1 (Nat.le_refl _) _ _ _⟩
end Go.Proofs.YtdhmglmccafbnaaGreatDoor
namespace Go.Proofs.YtdhmglmccafbnaaGreatDoor
open Go.RowKit
theorem rvalue_any (b:Nat) (w:World) (h:b < 18446744073709551616) :
  Calls Tryz.prog 65 #[.int .u64 b] w fun r w'=>∃ u,r = .returned u∧IsDy w' u (fD b) (fX b)∧Below w.heap.size w w':=by
 have CF:=fun w'=>rfrac_any b w' h
 have CP:=fun w'=>rpower_any b w' h
 have CN:=fun w'=>rneg4_any b w' h
 have hf:=fF_lt b
 have hp:=fP_lt b
 have hE:=fE_in b
 have hfd:fD b = oM (fM b):=rfl
 have hfx:fX b = oE (fM b) (fE b):=rfl
 have hM:fM b = sg (fS b) (fA b):=rfl
 rw [hfd,hfx]
 by_cases h0:fP b = 0
 ·have hE0:fE b = -1074:=by unfold fE;rw [if_pos h0]
  have hA0:fA b = fF b:=by unfold fA;rw [if_pos h0]
  rw [h0] at CP
  have hw:IntKind.i64.wrap (fF b:Int) = (fF b:Int):=by simp only [IntKind.wrap_i64];omega
  cases hs:fS b with
  | false =>
   rw [hs] at CN hM
   have hm:(fF b:Int) = fM b:=by rw [hM,hA0];rfl
   exact rvalue_zo b (fF b) (fF b:Int) (fM b) (fE b) _ _ w hw CF CP CN (fun w'=>refOf_any _ w' (by omega) (by omega)) (fun w' v hv=>rof_small (fE b) hv (by decide) (by omega)) hE0 hm
  | true =>
   rw [hs] at CN hM
   have hm:(fF b:Int) = - fM b:=by rw [hM,hA0];simp [sg]
   refine rvalue_zn b (fF b) (fF b:Int) (fF b:Int) (fE b) _ _ w hw CF CP CN (fun w'=>refOf_any _ w' (by omega) (by omega)) (fun w' v hv=>?_) hE0 rfl
   have:-(fF b:Int) = fM b:=by omega
   rw [this] at hv
   exact rof_small (fE b) hv (by decide) (by omega)
 ·have hE0:fE b = (fP b:Int) - 1075:=by unfold fE;rw [if_neg h0]
  have hA0:fA b = fF b+4503599627370496:=by unfold fA;rw [if_neg h0]
  have hw:IntKind.i64.wrap (fF b:Int) = (fF b:Int):=by simp only [IntKind.wrap_i64];omega
  have w1:IntKind.u64.wrap ((fF b:Int)+4503599627370496) = (fA b:Int):=by simp only [IntKind.wrap_u64];omega
  have w2:IntKind.i64.wrap (fA b:Int) = (fA b:Int):=by simp only [IntKind.wrap_i64];omega
  have w3:IntKind.i64.wrap ((fP b:Int) - 1075) = fE b:=by simp only [IntKind.wrap_i64];omega
  have hl:=fA_lt b
  cases hs:fS b with
  | false =>
   rw [hs] at CN hM
   have hm:(fA b:Int) = fM b:=by rw [hM];rfl
   refine rvalue_po b (fP b) (fF b) (fF b:Int) (fA b:Int) (fA b:Int) (fE b) _ _ w (by omega) hw CF CP CN (fun w'=>refOf_any _ w' (by omega) (by omega)) (fun w' v hv=>?_) w1 w2 w3 (fun w'=>refOf_any _ w' (by omega) (by omega))
   rw [hm] at hv
   exact rof_small (fE b) hv (by decide) (by omega)
  | true =>
   rw [hs] at CN hM
   have hm:-(fA b:Int) = fM b:=by rw [hM];simp [sg]
   refine rvalue_pn b (fP b) (fF b) (fF b:Int) (fA b:Int) (fA b:Int) (fE b) _ _ w (by omega) hw CF CP CN (fun w'=>refOf_any _ w' (by omega) (by omega)) (fun w' v hv=>?_) w1 w2 w3 (fun w'=>refOf_any _ w' (by omega) (by omega))
   rw [hm] at hv
   exact rof_small (fE b) hv (by decide) (by omega)
theorem lenL_bl {L:List Nat} {n:Bool} (hf:Fits L) (hr:rightB n L = true):lenL L = (bl (val L):Int):=by
 rw [lenL_bits]
 by_cases h0:L = []
 ·subst h0;rfl
 ·obtain ⟨a1,a2,a3⟩:=bits_spec L hf (right_canon hr).2.1 h0
  rw [bl_of a1 a2 a3]
end Go.Proofs.YtdhmglmccafbnaaGreatDoor
namespace Go.Proofs.YtdhmglmccafbnaaGreatDoor
open Go.RowKit
theorem small_num {B:Nat} {w:World} {v:Value} {z:Int} (hv:IsNum B w v z) (hz:-9223372036854775808≤z∧z≤9223372036854775807) :
  Calls Tryz.prog 299 #[v] w fun e w'=>e = .returned (.tuple #[.int .i64 z,.int .i64 0])∧Below w.heap.size w w':=by
 obtain ⟨na,ao,ca,A,rfl,a1,a2,a3,_⟩:=hv.right (lt_TOP (k:=64) (by have:(2:Nat) ^ 64 = 18446744073709551616:=(by decide);omega) (by decide))
 have h:=small_any na ao ca A w a1 (by have:=(right_canon a2).1;omega)
 have hf:fits64 (sval na A) = true:=by unfold fits64;rw [a3];exact decide_eq_true hz
 have e1:smV na A = z:=by unfold smV;rw [a2,hf];simpa using a3
 have e2:smE na A = 0:=by unfold smE;rw [a2,hf];rfl
 rw [e1,e2] at h
 exact h
theorem bits_and1 (n:Nat) (h:n < 1152921504606846976):bits .and .i64 (n:Int) 1 = ((n % 2:Nat):Int):=by
 have h1:=Go.bits_nat .i64 62 (by decide) (fun x h0 h1=>by rw [IntKind.wrap_i64];simp at h1;omega) n 1 (by simp;omega) (by decide)
 have h2:=h1.1
 refine h2.trans ?_
 rw [Nat.and_one_is_mod]
theorem bits_and2 (n:Nat) (h:n < 1152921504606846976):bits .and .i64 (n:Int) 2 = ((2 * (n / 2 % 2):Nat):Int):=by
 have h1:=Go.bits_nat .i64 62 (by decide) (fun x h0 h1=>by rw [IntKind.wrap_i64];simp at h1;omega) n 2 (by simp;omega) (by decide)
 have h2:=h1.1
 refine h2.trans ?_
 have e1:(n &&& 2) % 2 = 0:=by
  have:=Nat.and_mod_two_pow (a:=n) (b:=2) (n:=1)
  simpa using this
 have e2:(n &&& 2) / 2 = (n / 2) &&& 1:=by
  have:=Nat.and_div_two_pow (a:=n) (b:=2) (n:=1)
  simpa using this
 rw [Nat.and_one_is_mod] at e2
 have:=Nat.div_add_mod (n &&& 2) 2
 rw [e1,e2] at this
 congr 1
 omega
theorem roundAt_a (na:Bool) (ao:Option Addr) (ca l N:Nat) (E last:Int) (q:Bool) (w:World) (hE:-20000≤E∧E≤20000) (hL:-20000≤last∧last≤20000) (hN0:(0:Int)≤N) (hN:(N:Int) < 1152921504606846976)
  (CS:∀ w',Below w.heap.size w w'→Calls Tryz.prog 268 #[.agg #[.bool false,.slice ao l ca],.int .i64 (E - last+1)] w' fun e w''=>∃ v,e = .returned (.tuple #[v,.int .i64 0])∧IsNum w'.heap.size w'' v N∧Below w'.heap.size w' w'')
  (p1:bits .and .i64 (N:Int) 1 = 0) (t1:(E == last - 1) = q) :
  Calls Tryz.prog 294 #[.agg #[.bool na,.slice ao l ca,.int .i64 E],.int .i64 last] w fun e w'=>e = .returned (.int .u64 ((N / 2:Nat):Int))∧Below w.heap.size w w':=by
 have KS:=hide CS
 clear CS
 obtain ⟨r1,r2⟩:=hE
 obtain ⟨r3,r4⟩:=hL
 have hb0:Below w.heap.size w ((w.alloc (.cells #[.bool na,.slice ao l ca,.int .i64 E] 41)).alloc (.cells #[.bool false,.slice ao l ca] 39)):=((Below.refl _ _).alloc (Nat.le_refl _) _).alloc (by simp) _
 have B0:=hide hb0
 have X0:=hide (show Box3 ((w.alloc (.cells #[.bool na,.slice ao l ca,.int .i64 E] 41)).alloc (.cells #[.bool false,.slice ao l ca] 39)) w.heap.size (.bool na) (.slice ao l ca) (.int .i64 E) from (Box3.new _ _ _ _).old _)
 clear hb0
 go_enter Tryz.func294,Tryz.ntmps294
 go_wp2_with fail
 refine (uH KS _ (uH B0)).mono ?_
 rintro e w1 ⟨v,rfl,hv,hb1⟩
 have b1:=(uH B0).trans (hb1.mono (uH B0).size)
 have x1:=(uH X0).all hb1
 obtain ⟨n1,a1,c1,L1,rfl,i1⟩:=hv
 have hb2:Below w1.heap.size w1 (w1.alloc (.cells #[.bool n1,.slice a1 L1.length c1] 39)):=(Below.refl _ _).alloc (Nat.le_refl _) _
 have HV:=hide ((show IsNum 0 w1 (.agg #[.bool n1,.slice a1 L1.length c1]) N from ⟨n1,a1,c1,L1,rfl,i1.1,NewAt.zero i1.1,i1.2.2⟩).below hb2)
 have B2:=hide (b1.trans (hb2.mono b1.size))
 have X2:=hide (x1.all hb2)
 clear hb1 b1 x1 i1 hb2 B0 X0 KS
 generalize L1.length = l1 at *
 go_wp2_with fail
 refine (small_num (uH HV) (by omega)).mono ?_
 rintro e w3 ⟨rfl,hb3⟩
 have x3:=(uH X2).all hb3
 have B3:=hide ((uH B2).trans (hb3.mono (uH B2).size))
 have y0:=x3.c0;have y1:=x3.c1;have y2:=x3.c2
 clear hb3 x3 X2 B2 HV
 go_wp2
 go_ret
 exact ⟨rfl,uH B3⟩
theorem roundAt_b (na:Bool) (ao:Option Addr) (ca l N:Nat) (E last:Int) (w:World) (hE:-20000≤E∧E≤20000) (hL:-20000≤last∧last≤20000) (hN0:(0:Int)≤N) (hN:(N:Int) < 1152921504606846976)
  (CS:∀ w',Below w.heap.size w w'→Calls Tryz.prog 268 #[.agg #[.bool false,.slice ao l ca],.int .i64 (E - last+1)] w' fun e w''=>∃ v,e = .returned (.tuple #[v,.int .i64 0])∧IsNum w'.heap.size w'' v N∧Below w'.heap.size w' w'')
  (p1:bits .and .i64 (N:Int) 1 = 1) (t1:(E == last - 1) = false) :
  Calls Tryz.prog 294 #[.agg #[.bool na,.slice ao l ca,.int .i64 E],.int .i64 last] w fun e w'=>e = .returned (.int .u64 (((N+1) / 2:Nat):Int))∧Below w.heap.size w w':=by
 have KS:=hide CS
 clear CS
 obtain ⟨r1,r2⟩:=hE
 obtain ⟨r3,r4⟩:=hL
 have hb0:Below w.heap.size w ((w.alloc (.cells #[.bool na,.slice ao l ca,.int .i64 E] 41)).alloc (.cells #[.bool false,.slice ao l ca] 39)):=((Below.refl _ _).alloc (Nat.le_refl _) _).alloc (by simp) _
 have B0:=hide hb0
 have X0:=hide (show Box3 ((w.alloc (.cells #[.bool na,.slice ao l ca,.int .i64 E] 41)).alloc (.cells #[.bool false,.slice ao l ca] 39)) w.heap.size (.bool na) (.slice ao l ca) (.int .i64 E) from (Box3.new _ _ _ _).old _)
 clear hb0
 go_enter Tryz.func294,Tryz.ntmps294
 go_wp2_with fail
 refine (uH KS _ (uH B0)).mono ?_
 rintro e w1 ⟨v,rfl,hv,hb1⟩
 have b1:=(uH B0).trans (hb1.mono (uH B0).size)
 have x1:=(uH X0).all hb1
 obtain ⟨n1,a1,c1,L1,rfl,i1⟩:=hv
 have hb2:Below w1.heap.size w1 (w1.alloc (.cells #[.bool n1,.slice a1 L1.length c1] 39)):=(Below.refl _ _).alloc (Nat.le_refl _) _
 have HV:=hide ((show IsNum 0 w1 (.agg #[.bool n1,.slice a1 L1.length c1]) N from ⟨n1,a1,c1,L1,rfl,i1.1,NewAt.zero i1.1,i1.2.2⟩).below hb2)
 have B2:=hide (b1.trans (hb2.mono b1.size))
 have X2:=hide (x1.all hb2)
 clear hb1 b1 x1 i1 hb2 B0 X0 KS
 generalize L1.length = l1 at *
 go_wp2_with fail
 refine (small_num (uH HV) (by omega)).mono ?_
 rintro e w3 ⟨rfl,hb3⟩
 have x3:=(uH X2).all hb3
 have B3:=hide ((uH B2).trans (hb3.mono (uH B2).size))
 have y0:=x3.c0;have y1:=x3.c1;have y2:=x3.c2
 clear hb3 x3 X2 B2 HV
 go_wp2
 go_ret
 exact ⟨rfl,uH B3⟩
theorem roundAt_c (na:Bool) (ao:Option Addr) (ca l N:Nat) (E last:Int) (w:World) (hE:-20000≤E∧E≤20000) (hL:-20000≤last∧last≤20000) (hN0:(0:Int)≤N) (hN:(N:Int) < 1152921504606846976)
  (CS:∀ w',Below w.heap.size w w'→Calls Tryz.prog 268 #[.agg #[.bool false,.slice ao l ca],.int .i64 (E - last+1)] w' fun e w''=>∃ v,e = .returned (.tuple #[v,.int .i64 0])∧IsNum w'.heap.size w'' v N∧Below w'.heap.size w' w'')
  (p1:bits .and .i64 (N:Int) 1 = 1) (t1:(E == last - 1) = true) (p2:bits .and .i64 (N:Int) 2 = 2) :
  Calls Tryz.prog 294 #[.agg #[.bool na,.slice ao l ca,.int .i64 E],.int .i64 last] w fun e w'=>e = .returned (.int .u64 (((N+1) / 2:Nat):Int))∧Below w.heap.size w w':=by
 have KS:=hide CS
 clear CS
 obtain ⟨r1,r2⟩:=hE
 obtain ⟨r3,r4⟩:=hL
 have hb0:Below w.heap.size w ((w.alloc (.cells #[.bool na,.slice ao l ca,.int .i64 E] 41)).alloc (.cells #[.bool false,.slice ao l ca] 39)):=((Below.refl _ _).alloc (Nat.le_refl _) _).alloc (by simp) _
 have B0:=hide hb0
 have X0:=hide (show Box3 ((w.alloc (.cells #[.bool na,.slice ao l ca,.int .i64 E] 41)).alloc (.cells #[.bool false,.slice ao l ca] 39)) w.heap.size (.bool na) (.slice ao l ca) (.int .i64 E) from (Box3.new _ _ _ _).old _)
 clear hb0
 go_enter Tryz.func294,Tryz.ntmps294
 go_wp2_with fail
 refine (uH KS _ (uH B0)).mono ?_
 rintro e w1 ⟨v,rfl,hv,hb1⟩
 have b1:=(uH B0).trans (hb1.mono (uH B0).size)
 have x1:=(uH X0).all hb1
 obtain ⟨n1,a1,c1,L1,rfl,i1⟩:=hv
 have hb2:Below w1.heap.size w1 (w1.alloc (.cells #[.bool n1,.slice a1 L1.length c1] 39)):=(Below.refl _ _).alloc (Nat.le_refl _) _
 have HV:=hide ((show IsNum 0 w1 (.agg #[.bool n1,.slice a1 L1.length c1]) N from ⟨n1,a1,c1,L1,rfl,i1.1,NewAt.zero i1.1,i1.2.2⟩).below hb2)
 have B2:=hide (b1.trans (hb2.mono b1.size))
 have X2:=hide (x1.all hb2)
 clear hb1 b1 x1 i1 hb2 B0 X0 KS
 generalize L1.length = l1 at *
 go_wp2_with fail
 refine (small_num (uH HV) (by omega)).mono ?_
 rintro e w3 ⟨rfl,hb3⟩
 have x3:=(uH X2).all hb3
 have B3:=hide ((uH B2).trans (hb3.mono (uH B2).size))
 have y0:=x3.c0;have y1:=x3.c1;have y2:=x3.c2
 clear hb3 x3 X2 B2 HV
 go_wp2
 go_ret
 exact ⟨rfl,uH B3⟩
theorem roundAt_d (na:Bool) (ao:Option Addr) (ca l N:Nat) (E last:Int) (w:World) (hE:-20000≤E∧E≤20000) (hL:-20000≤last∧last≤20000) (hN0:(0:Int)≤N) (hN:(N:Int) < 1152921504606846976)
  (CS:∀ w',Below w.heap.size w w'→Calls Tryz.prog 268 #[.agg #[.bool false,.slice ao l ca],.int .i64 (E - last+1)] w' fun e w''=>∃ v,e = .returned (.tuple #[v,.int .i64 0])∧IsNum w'.heap.size w'' v N∧Below w'.heap.size w' w'')
  (p1:bits .and .i64 (N:Int) 1 = 1) (t1:(E == last - 1) = true) (p2:bits .and .i64 (N:Int) 2 = 0) :
  Calls Tryz.prog 294 #[.agg #[.bool na,.slice ao l ca,.int .i64 E],.int .i64 last] w fun e w'=>e = .returned (.int .u64 ((N / 2:Nat):Int))∧Below w.heap.size w w':=by
 have KS:=hide CS
 clear CS
 obtain ⟨r1,r2⟩:=hE
 obtain ⟨r3,r4⟩:=hL
 have hb0:Below w.heap.size w ((w.alloc (.cells #[.bool na,.slice ao l ca,.int .i64 E] 41)).alloc (.cells #[.bool false,.slice ao l ca] 39)):=((Below.refl _ _).alloc (Nat.le_refl _) _).alloc (by simp) _
 have B0:=hide hb0
 have X0:=hide (show Box3 ((w.alloc (.cells #[.bool na,.slice ao l ca,.int .i64 E] 41)).alloc (.cells #[.bool false,.slice ao l ca] 39)) w.heap.size (.bool na) (.slice ao l ca) (.int .i64 E) from (Box3.new _ _ _ _).old _)
 clear hb0
 go_enter Tryz.func294,Tryz.ntmps294
 go_wp2_with fail
 refine (uH KS _ (uH B0)).mono ?_
 rintro e w1 ⟨v,rfl,hv,hb1⟩
 have b1:=(uH B0).trans (hb1.mono (uH B0).size)
 have x1:=(uH X0).all hb1
 obtain ⟨n1,a1,c1,L1,rfl,i1⟩:=hv
 have hb2:Below w1.heap.size w1 (w1.alloc (.cells #[.bool n1,.slice a1 L1.length c1] 39)):=(Below.refl _ _).alloc (Nat.le_refl _) _
 have HV:=hide ((show IsNum 0 w1 (.agg #[.bool n1,.slice a1 L1.length c1]) N from ⟨n1,a1,c1,L1,rfl,i1.1,NewAt.zero i1.1,i1.2.2⟩).below hb2)
 have B2:=hide (b1.trans (hb2.mono b1.size))
 have X2:=hide (x1.all hb2)
 clear hb1 b1 x1 i1 hb2 B0 X0 KS
 generalize L1.length = l1 at *
 go_wp2_with fail
 refine (small_num (uH HV) (by omega)).mono ?_
 rintro e w3 ⟨rfl,hb3⟩
 have x3:=(uH X2).all hb3
 have B3:=hide ((uH B2).trans (hb3.mono (uH B2).size))
 have y0:=x3.c0;have y1:=x3.c1;have y2:=x3.c2
 clear hb3 x3 X2 B2 HV
 go_wp2
 go_ret
 exact ⟨rfl,uH B3⟩
end Go.Proofs.YtdhmglmccafbnaaGreatDoor
namespace Go.Proofs.YtdhmglmccafbnaaGreatDoor
open Go.RowKit
theorem drB_val {n:Bool} {L:List Nat} {e:Int} (h:drB n L e = true) (h0:L ≠ []):val L % 2 = 1:=by
 unfold drB at h
 have hl:L.length ≠ 0:=fun h1=>h0 (List.length_eq_zero_iff.1 h1)
 rw [if_neg hl] at h
 simp only [Bool.and_eq_true,decide_eq_true_eq] at h
 exact h.2.1
theorem rightB_pos {n:Bool} {L:List Nat} (h:rightB n L = true):rightB false L = true:=by
 unfold rightB at *
 revert h
 cases n <;> simp
 intro h1 h2 h3
 exact ⟨h1,h3⟩
theorem shift_pN {na:Bool} {A:List Nat} (j:Int) (hr:rightB na A = true) (hj:-16384≤j+1∧j+1≤16384) (hN:pN (val A) j < 1152921504606846976) :
  shE false A (j+1) = 0∧shN false A (j+1) = (pN (val A) j:Int):=by
 have hok:shOk false A (j+1) = true:=by unfold shOk;rw [rightB_pos hr,decide_eq_true hj];rfl
 have hv:shV false A (j+1) = (pN (val A) j:Int):=by unfold shV pN sg;rfl
 have ht:(shV false A (j+1)).natAbs < TOP:=by
  rw [hv]
  exact lt_TOP (k:=60) (by have:(2:Nat) ^ 60 = 1152921504606846976:=(by decide);omega) (by decide)
 unfold shE shN
 rw [if_pos hok,if_pos hok,errOf_small _ ht,numOf_small _ ht,hv]
 exact ⟨rfl,rfl⟩
theorem roundAt_any (na:Bool) (ao:Option Addr) (ca:Nat) (A:List Nat) (E last:Int) (w:World) (hA:LimbsAt w ao ca A) (hr:drB na A E = true) (h0:A ≠ []) (hL:-2000≤last∧last≤2000) (hj:-16384≤E - last+1∧E - last+1≤16384) (hN:pN (val A) (E - last) < 1152921504606846976) :
  Calls Tryz.prog 294 #[.agg #[.bool na,.slice ao A.length ca,.int .i64 E],.int .i64 last] w fun e w'=>e = .returned (.int .u64 (mS (val A) (E - last):Nat))∧Below w.heap.size w w':=by
 obtain ⟨d1,d2,d3,d4,d5⟩:=drB_bounds hr
 have ho:=drB_val hr h0
 obtain ⟨s1,s2⟩:=shift_pN (E - last) d1 hj hN
 have CS:∀ w',Below w.heap.size w w'→Calls Tryz.prog 268 #[.agg #[.bool false,.slice ao A.length ca],.int .i64 (E - last+1)] w' fun e w''=>∃ v,e = .returned (.tuple #[v,.int .i64 0])∧IsNum w'.heap.size w'' v (pN (val A) (E - last))∧Below w'.heap.size w' w'':=by
  intro w' hb
  have:=shift_any false ao ca A (E - last+1) w' (hA.below hb) (by omega) (by omega)
  rw [s1,s2] at this
  exact this
 have b1:=bits_and1 _ hN
 have b2:=bits_and2 _ hN
 rw [← pM_mS _ _ ho]
 have hpm:pM (val A) (E - last) = (pN (val A) (E - last)+(pUp (val A) (E - last)).toNat) / 2:=rfl
 have hpu:pUp (val A) (E - last) = (decide (pN (val A) (E - last) % 2 = 1) && (!decide (E - last = -1) || decide (pN (val A) (E - last) / 2 % 2 = 1))):=rfl
 rw [hpm,hpu]
 generalize pN (val A) (E - last) = N at *
 have hE:-20000≤E∧E≤20000:=by omega
 have hL':-20000≤last∧last≤20000:=by omega
 by_cases c1:N % 2 = 1
 ·rw [c1] at b1
  rw [decide_eq_true c1]
  by_cases c2:E - last = -1
  ·have t1:(E == last - 1) = true:=by simp;omega
   rw [decide_eq_true c2]
   by_cases c3:N / 2 % 2 = 1
   ·rw [c3] at b2
    rw [decide_eq_true c3]
    exact roundAt_c na ao ca A.length N E last w hE hL' (by omega) (by omega) CS b1 t1 b2
   ·have c3':N / 2 % 2 = 0:=by omega
    rw [c3'] at b2
    rw [decide_eq_false c3]
    exact roundAt_d na ao ca A.length N E last w hE hL' (by omega) (by omega) CS b1 t1 b2
  ·have t1:(E == last - 1) = false:=by simp;omega
   rw [decide_eq_false c2]
   exact roundAt_b na ao ca A.length N E last w hE hL' (by omega) (by omega) CS b1 t1
 ·have c1':N % 2 = 0:=by omega
  rw [c1'] at b1
  rw [decide_eq_false c1]
  exact roundAt_a na ao ca A.length N E last _ w hE hL' (by omega) (by omega) CS b1 rfl
end Go.Proofs.YtdhmglmccafbnaaGreatDoor
