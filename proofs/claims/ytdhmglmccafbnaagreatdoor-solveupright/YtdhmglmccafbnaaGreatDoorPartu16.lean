/- Part 16 of the texts. -/
import Derived.Test.YtdhmglmccafbnaaGreatDoorPartu15
import Derived.Test.YtdhmglmccafbnaaGreatDoorPartu12
set_option maxHeartbeats 2000000
set_option maxRecDepth 20000
namespace Go.Proofs.YtdhmglmccafbnaaGreatDoor
open Go.RowKit
def ab (x:Rat):Rat:=if x < 0 then -x else x
theorem ab_0 (x:Rat):0≤ab x:=by unfold ab;grind
theorem ab_le {x y:Rat} (h1:x≤y) (h2:-x≤y):ab x≤y:=by unfold ab;grind
theorem le_ab (x:Rat):x≤ab x∧-x≤ab x:=by unfold ab;grind
theorem ab_pos {x:Rat} (h:0≤x):ab x = x:=by unfold ab;grind
theorem ab_neg (x:Rat):ab (-x) = ab x:=by unfold ab;grind
theorem ab_sub (x y:Rat):ab (x - y) = ab (y - x):=by unfold ab;grind
theorem ab_add (x y:Rat):ab (x+y)≤ab x+ab y:=by unfold ab;grind
theorem ab_mul (x y:Rat):ab (x * y) = ab x * ab y:=by
 have h1:0≤x→0≤y→0≤x * y:=fun a b=>Rat.mul_nonneg a b
 have h2:0≤-x→0≤y→0≤-x * y:=fun a b=>Rat.mul_nonneg a b
 have h3:0≤x→0≤-y→0≤x * -y:=fun a b=>Rat.mul_nonneg a b
 have h4:0≤-x→0≤-y→0≤-x * -y:=fun a b=>Rat.mul_nonneg a b
 unfold ab
 by_cases a:x < 0 <;> by_cases b:y < 0 <;> simp only [a,b,if_true,if_false] <;> grind
theorem sq_nonneg (x:Rat):0≤x * x:=by
 have h1:0≤x→0≤x * x:=fun a=>Rat.mul_nonneg a a
 have h2:0≤-x→0≤-x * -x:=fun a=>Rat.mul_nonneg a a
 by_cases a:0≤x
 ·exact h1 a
 ·have:=h2 (by grind)
  grind
def fQ (a:Nat):Rat:=(fZ a:Rat) * p2 (-1074)
theorem fQ_pv (n:Bool) (r:Nat):(pv n r:Rat) * p2 (-1074) = if n = true then -((rv r:Rat) * p2 (-1074)) else (rv r:Rat) * p2 (-1074):=by
 unfold pv
 cases n
 ·simp only [Bool.false_eq_true,if_false];rfl
 ·simp only [if_true]
  rw [Rat.intCast_neg,Rat.neg_mul]
  rfl
theorem fQ_sign (a:Nat):fQ a = if fS a = true then -((rv (fR a):Rat) * p2 (-1074)) else (rv (fR a):Rat) * p2 (-1074):=fQ_pv _ _
theorem mag_0 (r:Nat):0≤(rv r:Rat) * p2 (-1074):=Rat.mul_nonneg Rat.natCast_nonneg (Rat.le_of_lt (p2_pos _))
theorem fQ_ab (a:Nat):ab (fQ a) = (rv (fR a):Rat) * p2 (-1074):=by
 have:=mag_0 (fR a)
 rw [fQ_sign]
 cases fS a
 ·simp only [Bool.false_eq_true,if_false];exact ab_pos this
 ·simp only [if_true];rw [ab_neg];exact ab_pos this
theorem cast_abs (z:Int):(z:Rat) = if z < 0 then -(z.natAbs:Rat) else (z.natAbs:Rat):=by
 by_cases h:z < 0
 ·rw [if_pos h]
  have:z = -(z.natAbs:Int):=by omega
  conv=>lhs;rw [this]
  rw [Rat.intCast_neg]
  rfl
 ·rw [if_neg h]
  have:z = (z.natAbs:Int):=by omega
  conv=>lhs;rw [this]
  rfl
theorem add_err (a b:Nat) (fa:fFin a = true) (fb:fFin b = true) (hf:fFin (aV a b) = true) :
  9007199254740992 * ab (fQ (aV a b) - (fQ a+fQ b))≤ab (fQ a+fQ b):=by
 obtain ⟨v1,v2⟩:=aV_fin a b fa fb
 have hr:=fR_fin _ hf
 rw [v1] at hr
 have hx:fQ a+fQ b = ((aZ a b:Int):Rat) * p2 (-1074):=by
  unfold fQ aZ
  rw [Rat.intCast_add,Rat.add_mul]
 have hy:fQ (aV a b) = ((pvZ (aZ a b) (-1074):Int):Rat) * p2 (-1074):=by
  unfold fQ;rw [v2]
 rw [hx,hy]
 unfold pvZ
 rw [fQ_pv,cast_abs]
 have e:=rnd_err (aZ a b).natAbs (-1074) hr
 unfold yE xE at e
 have hp:=p2_pos (-1074)
 have n0:(0:Rat)≤((aZ a b).natAbs:Rat) * p2 (-1074):=Rat.mul_nonneg Rat.natCast_nonneg (Rat.le_of_lt hp)
 by_cases h:aZ a b < 0
 ·simp only [h,decide_true,if_true]
  unfold ab
  grind
 ·simp only [h,decide_false,if_false,Bool.false_eq_true]
  unfold ab
  grind
theorem mV_any (a b:Nat) (fa:fFin a = true) (fb:fFin b = true):mV a b = wrd (fS a ^^ fS b) (rnd (rv (fR a) * rv (fR b)) (-2148)):=by
 obtain ⟨a3,a4⟩:=fin_kind fa
 obtain ⟨b3,b4⟩:=fin_kind fb
 unfold mV
 rw [if_neg (by omega),if_neg (by omega)]
theorem mul_err (a b:Nat) (fa:fFin a = true) (fb:fFin b = true) (hf:fFin (mV a b) = true) :
  9007199254740992 * ab (fQ (mV a b) - fQ a * fQ b)≤ab (fQ a * fQ b) ∨ (fR (mV a b)≤4503599627370496∧2 * ab (fQ (mV a b) - fQ a * fQ b)≤p2 (-1074)):=by
 have hr:=fR_fin _ hf
 have hm:=mV_any a b fa fb
 have hle:=rnd_le (rv (fR a) * rv (fR b)) (-2148)
 have hR:fR (mV a b) = rnd (rv (fR a) * rv (fR b)) (-2148):=by rw [hm,fR_wrd _ _ (by omega)]
 have hS:fS (mV a b) = (fS a ^^ fS b):=by rw [hm,fS_wrd _ _ (by omega)]
 rw [hR] at hr
 have e:=rnd_err _ _ hr
 have hx:xE (rv (fR a) * rv (fR b)) (-2148) = (rv (fR a):Rat) * p2 (-1074) * ((rv (fR b):Rat) * p2 (-1074)):=by
  unfold xE
  rw [Rat.natCast_mul,show (-2148:Int) = -1074+-1074 by rfl,p2_add]
  grind
 rw [hx] at e
 unfold yE at e
 have hp:=p2_pos (-1074)
 have hQ:fQ (mV a b) = if (fS a ^^ fS b) = true then -((rv (rnd (rv (fR a) * rv (fR b)) (-2148)):Rat) * p2 (-1074)) else (rv (rnd (rv (fR a) * rv (fR b)) (-2148)):Rat) * p2 (-1074):=by rw [fQ_sign,hS,hR]
 have n0:=mag_0 (fR a);have n1:=mag_0 (fR b)
 have n2:=Rat.mul_nonneg n0 n1
 rw [hQ,fQ_sign a,fQ_sign b,hR]
 generalize (rv (fR a):Rat) * p2 (-1074) = A at *
 generalize (rv (fR b):Rat) * p2 (-1074) = B at *
 generalize (rv (rnd (rv (fR a) * rv (fR b)) (-2148)):Rat) * p2 (-1074) = Y at *
 have k1:ab (A * B) = A * B:=ab_pos n2
 have k2:ab (Y - A * B) = ab (A * B - Y):=ab_sub _ _
 have k3:∀ t:Rat,9007199254740992 * Y≤9007199254740992 * (A * B)+t→9007199254740992 * (A * B)≤9007199254740992 * Y+t→9007199254740992 * ab (Y - A * B)≤t:=fun t h1 h2=>by unfold ab;grind
 have k4:2 * Y≤2 * (A * B)+p2 (-1074)→2 * (A * B)≤2 * Y+p2 (-1074)→2 * ab (Y - A * B)≤p2 (-1074):=fun h1 h2=>by unfold ab;grind
 have main:9007199254740992 * ab (Y - A * B)≤A * B ∨ (rnd (rv (fR a) * rv (fR b)) (-2148)≤4503599627370496∧2 * ab (Y - A * B)≤p2 (-1074)):=by
  rcases e with ⟨e1,e2⟩ | ⟨e1,e2,e3,e4⟩
  ·exact .inl (k3 _ e1 e2)
  ·exact .inr ⟨e1,k4 e3 e4⟩
 cases fS a <;> cases fS b <;> simp only [Bool.xor_false,Bool.xor_true,Bool.not_true,Bool.not_false,Bool.false_eq_true,if_true,if_false]
 ·rw [k1];exact main
 ·rw [show -Y - A * -B = A * B - Y by grind,show A * -B = -(A * B) by grind,ab_neg,k1,← k2];exact main
 ·rw [show -Y - -A * B = A * B - Y by grind,show -A * B = -(A * B) by grind,ab_neg,k1,← k2];exact main
 ·rw [show Y - -A * -B = Y - A * B by grind,show -A * -B = A * B by grind,k1];exact main
end Go.Proofs.YtdhmglmccafbnaaGreatDoor
namespace Go.Proofs.YtdhmglmccafbnaaGreatDoor
open Go.RowKit
theorem p2_lt {a b:Int} (h:a < b):p2 a < p2 b:=by
 have h1:=p2_mono (show a+1≤b by omega)
 rw [p2_succ] at h1
 have:=p2_pos a
 grind
theorem lt_of_p2 {a b:Int} (h:p2 a < p2 b):a < b:=by
 rcases Int.lt_or_le a b with g | g
 ·exact g
 ·have:=p2_mono g
  grind
theorem xE_top (v:Nat) (E:Int) (h:v ≠ 0):p2 ((bl v:Int)+E - 1)≤xE v E∧xE v E < p2 ((bl v:Int)+E):=by
 obtain ⟨b1,b2,b3⟩:=bl_spec v h
 have hp:=p2_pos E
 constructor
 ·rw [show (bl v:Int)+E - 1 = ((bl v - 1:Nat):Int)+E by omega,p2_add,p2_nat]
  unfold xE
  have:=Rat.mul_le_mul_of_nonneg_left (Rat.natCast_le_natCast.2 b2) (Rat.le_of_lt hp)
  grind
 ·rw [p2_add,p2_nat]
  unfold xE
  have:=Rat.mul_lt_mul_of_pos_left (Rat.natCast_lt_natCast.2 b3) hp
  grind
theorem rnd_finite (v:Nat) (E:Int) (h:xE v E < p2 1023):rnd v E < 9218868437227405312:=by
 by_cases h0:v = 0
 ·rw [h0,rnd_0];decide
 ·have h1:=(xE_top v E h0).1
  have h2:(bl v:Int)+E - 1 < 1023:=lt_of_p2 (by grind)
  by_cases h3:(bl v:Int)+E≤1022
  ·obtain ⟨m1,m2,m3⟩:=rndM_bounds v E h0
   obtain ⟨l1,l2,l3⟩:=lastE_ge v E
   rw [rnd_fin v E h0 (by omega)]
   have:(lastE v E+1074).toNat≤2043:=by omega
   omega
  ·obtain ⟨m1,m2,m3⟩:=rndM_bounds v E h0
   obtain ⟨l1,l2,l3⟩:=lastE_ge v E
   rw [rnd_fin v E h0 (by omega)]
   have:(lastE v E+1074).toNat≤2044:=by omega
   omega
theorem rnd_short (v:Nat) (E:Int) (hb:bl v≤53) (hf:rnd v E < 9218868437227405312) :
  yE v E = xE v E ∨ (xE v E < p2 (-1022)∧rnd v E≤4503599627370496∧2 * yE v E≤2 * xE v E+p2 (-1074)∧2 * xE v E≤2 * yE v E+p2 (-1074)):=by
 by_cases h:v = 0
 ·subst h
  refine .inl ?_
  have e:yE 0 E = 0:=by unfold yE;rw [rnd_0,rv_zero];exact Rat.zero_mul _
  have e2:xE 0 E = 0:=Rat.zero_mul _
  rw [e,e2]
 have ht:=fin_top v E h hf
 obtain ⟨l1,l2,l3⟩:=lastE_ge v E
 obtain ⟨r1,r2,r3⟩:=rnd_half v E h ht
 by_cases hl:lastE v E≤E
 ·exact .inl (r1 hl)
 ·have l4:lastE v E = -1074∧(bl v:Int)+E < -1021:=by omega
  have hx:=(xE_top v E h).2
  have hx2:=p2_mono (show (bl v:Int)+E≤-1022 by omega)
  rcases rnd_err v E hf with e | e
  ·refine .inr ⟨by grind,?_,by rw [l4.1] at r2;exact r2,by rw [l4.1] at r3;exact r3⟩
   obtain ⟨b1,b2,b3⟩:=bl_spec v h
   obtain ⟨k,hk,hk1⟩:∃ k:Nat,E - lastE v E = -(k:Int)∧1≤k:=⟨(lastE v E - E).toNat,by omega,by omega⟩
   have hM:rndM v E≤4503599627370496:=by
    unfold rndM
    rw [hk,mS_down _ _ hk1]
    refine cutE_upto ?_
    have h1:v < 2 ^ (52+k):=Nat.lt_of_lt_of_le b3 (pow_le2 (by omega))
    rw [Nat.pow_add,p52] at h1
    exact Nat.le_of_lt h1
   have h0:(lastE v E+1074).toNat = 0:=by omega
   rw [rnd_fin v E h ht,h0,Nat.zero_mul,Nat.add_zero]
   exact hM
  ·exact .inr ⟨by grind,e.1,e.2.2⟩
theorem fD_mag (a:Nat) (ha:a < 18446744073709551616) (fa:fFin a = true) (a0:fK a ≠ 0) (n:Int):xE (fD a).natAbs (fX a+n) = (rv (fR a):Rat) * p2 (-1074) * p2 n:=by
 obtain ⟨β,x1,x2,x3,x4⟩:=odd_mag a ha fa a0
 unfold xE
 rw [x2,Rat.natCast_mul,← p2_nat,show fX a+n = (β:Int)+-1074+n by omega,p2_add,p2_add]
 grind
theorem xV_fin (a:Nat) (n:Int) (fa:fFin a = true) (a0:fK a ≠ 0):xV a n = wrd (fS a) (rnd (fD a).natAbs (fX a+n)):=by
 obtain ⟨a3,a4⟩:=fin_kind fa
 unfold xV
 rw [if_neg a4,if_neg (by omega)]
theorem xV_nought (a:Nat) (n:Int) (a0:fK a = 0):xV a n = a:=by
 unfold xV
 rw [if_neg (by omega),if_pos (.inr a0)]
theorem fQ_nought (a:Nat) (a0:fK a = 0):fQ a = 0:=by
 have h:=fQ_ab a
 rw [(fK_zero a).1 a0,rv_zero] at h
 have h2:ab (fQ a) = 0:=by rw [h];exact Rat.zero_mul _
 unfold ab at h2
 grind
theorem scale_fin (a:Nat) (n:Int) (ha:a < 18446744073709551616) (fa:fFin a = true) (h:ab (fQ a) * p2 n < p2 1023):fFin (xV a n) = true:=by
 by_cases a0:fK a = 0
 ·rw [xV_nought a n a0];exact fa
 ·rw [xV_fin a n fa a0]
  rw [fQ_ab,← fD_mag a ha fa a0] at h
  have:=rnd_finite _ _ h
  exact (fK_rungs _).2.2.2 (by rw [fR_wrd _ _ (by omega)];exact this)
theorem scale_err (a:Nat) (n:Int) (ha:a < 18446744073709551616) (fa:fFin a = true) (hf:fFin (xV a n) = true) :
  fQ (xV a n) = fQ a * p2 n ∨ (ab (fQ a) * p2 n < p2 (-1022)∧fR (xV a n)≤4503599627370496∧2 * ab (fQ (xV a n) - fQ a * p2 n)≤p2 (-1074)):=by
 by_cases a0:fK a = 0
 ·rw [xV_nought a n a0,fQ_nought a a0,Rat.zero_mul];exact .inl rfl
 ·have hr:=fR_fin _ hf
  have hle:=rnd_le (fD a).natAbs (fX a+n)
  have hR:fR (xV a n) = rnd (fD a).natAbs (fX a+n):=by rw [xV_fin a n fa a0,fR_wrd _ _ (by omega)]
  have hS:fS (xV a n) = fS a:=by rw [xV_fin a n fa a0,fS_wrd _ _ (by omega)]
  rw [hR] at hr
  obtain ⟨z1,z2,z3,z4,z5,z6,z7,z8,z9⟩:=sc_facts a ha fa a0
  have hb:bl (fD a).natAbs≤53:=(dS_facts a ha fa a0).1
  have e:=rnd_short _ _ hb hr
  rw [fD_mag a ha fa a0 n] at e
  unfold yE at e
  rw [fQ_sign (xV a n),hS,hR,fQ_ab,fQ_sign a]
  generalize (rv (rnd (fD a).natAbs (fX a+n)):Rat) * p2 (-1074) = Y at *
  generalize (rv (fR a):Rat) * p2 (-1074) = A at *
  cases fS a <;> simp only [Bool.false_eq_true,if_true,if_false]
  ·rcases e with e | ⟨e1,e2,e3,e4⟩
   ·exact .inl e
   ·refine .inr ⟨e1,e2,?_⟩
    unfold ab;grind
  ·rcases e with e | ⟨e1,e2,e3,e4⟩
   ·refine .inl ?_
    grind
   ·refine .inr ⟨e1,e2,?_⟩
    unfold ab;grind
theorem scale_exact (a:Nat) (n:Int) (ha:a < 18446744073709551616) (fa:fFin a = true) (h1:ab (fQ a) * p2 n < p2 1023) (h2:p2 (-1022)≤ab (fQ a) * p2 n) :
  fFin (xV a n) = true∧fQ (xV a n) = fQ a * p2 n:=by
 have hf:=scale_fin a n ha fa h1
 refine ⟨hf,?_⟩
 rcases scale_err a n ha fa hf with e | e
 ·exact e
 ·grind
theorem add_fin (a b:Nat) (fa:fFin a = true) (fb:fFin b = true) (h:ab (fQ a+fQ b) < p2 1023):fFin (aV a b) = true:=by
 obtain ⟨v1,v2⟩:=aV_fin a b fa fb
 have hx:ab (fQ a+fQ b) = xE (aZ a b).natAbs (-1074):=by
  have:fQ a+fQ b = ((aZ a b:Int):Rat) * p2 (-1074):=by
   unfold fQ aZ
   rw [Rat.intCast_add,Rat.add_mul]
  rw [this,cast_abs]
  have n0:(0:Rat)≤((aZ a b).natAbs:Rat) * p2 (-1074):=Rat.mul_nonneg Rat.natCast_nonneg (Rat.le_of_lt (p2_pos _))
  unfold xE ab
  split <;> grind
 rw [hx] at h
 exact (fK_rungs _).2.2.2 (by rw [v1];exact rnd_finite _ _ h)
theorem mul_fin (a b:Nat) (fa:fFin a = true) (fb:fFin b = true) (h:ab (fQ a * fQ b) < p2 1023):fFin (mV a b) = true:=by
 have hx:xE (rv (fR a) * rv (fR b)) (-2148) = ab (fQ a * fQ b):=by
  rw [ab_mul,fQ_ab,fQ_ab]
  unfold xE
  rw [Rat.natCast_mul,show (-2148:Int) = -1074+-1074 by rfl,p2_add]
  grind
 rw [← hx] at h
 have:=rnd_finite _ _ h
 exact (fK_rungs _).2.2.2 (by rw [mV_any a b fa fb,fR_wrd _ _ (by omega)];exact this)
end Go.Proofs.YtdhmglmccafbnaaGreatDoor
namespace Go.Proofs.YtdhmglmccafbnaaGreatDoor
open Go.RowKit
theorem tS_sq (a:Nat) (h0:fK a ≠ 0):∃ N q:Nat,N = rv (fR a) * 2 ^ 120∧1152921504606846976≤q∧q * q≤N∧(tS a * tS a = 4 * N ∨ (tS a * tS a≤4 * N+4 * q∧4 * N≤tS a * tS a+4 * q)):=by
 refine ⟨_,isq (rv (fR a) * 2 ^ 120),rfl,?_,?_,?_⟩
 ·have:=(tS_low a h0).1
  have e:(2:Nat) ^ 60 = 1152921504606846976:=by decide
  omega
 ·exact (isq_spec _).1
 ·obtain ⟨s1,s2⟩:=isq_spec (rv (fR a) * 2 ^ 120)
  unfold tS rS
  generalize rv (fR a) * 2 ^ 120 = N at *
  generalize isq N = q at *
  have e1:(2 * q) * (2 * q) = 4 * (q * q):=by rw [Nat.mul_mul_mul_comm]
  have e2:(2 * q+1) * (2 * q+1) = 4 * (q * q)+4 * q+1:=by rw [sq_succ,e1];omega
  have e3:=sq_succ q
  by_cases h:q * q = N
  ·rw [if_pos h,Nat.add_zero]
   exact .inl (by rw [e1,h])
  ·rw [if_neg h]
   refine .inr ?_
   rw [e2]
   generalize q * q = Q at *
   omega
theorem sV_pos (a:Nat) (fa:fFin a = true) (a0:fK a ≠ 0) (hs:fS a = false):sV a = tV a:=by
 obtain ⟨a3,a4⟩:=fin_kind fa
 unfold sV
 rw [if_neg a4,if_neg (fun h=>?_),if_neg (by rw [hs];decide)]
 rcases h with h | h
 ·exact a0 h
 ·rw [h] at a3
  exact a3 (by decide)
theorem sqrt_err (a:Nat) (fa:fFin a = true) (a0:fK a ≠ 0) (hs:fS a = false) :
  fFin (sV a) = true∧fS (sV a) = false∧sV a < 18446744073709551616∧4503599627370496 < fR (sV a)∧0≤fQ (sV a)∧9007199254740992 * (fQ (sV a) * fQ (sV a))≤9007199254740992 * fQ a+3 * fQ a∧9007199254740992 * fQ a≤9007199254740992 * (fQ (sV a) * fQ (sV a))+3 * fQ a:=by
 obtain ⟨N,q,hN,hq,hq2,hT⟩:=tS_sq a a0
 obtain ⟨t1,t2⟩:=tV_range a fa a0
 have hv:=sV_pos a fa a0 hs
 have hr:fR (sV a) = tV a:=by rw [hv];unfold fR;omega
 have hS:fS (sV a) = false:=by rw [hv];exact decide_eq_false (by omega)
 have hfin:fFin (sV a) = true:=(fK_rungs _).2.2.2 (by rw [hr];omega)
 have hY:fQ (sV a) = yE (tS a) (-598):=by
  rw [fQ_sign,hS,if_neg (by decide),hr]
  rfl
 have hX:fQ a = ((4 * N:Nat):Rat) * p2 (-1196):=by
  rw [fQ_sign,hs,if_neg (by decide),hN,Rat.natCast_mul,Rat.natCast_mul,← p2_nat,show (-1074:Int) = 2+(120:Nat)+-1196 by rfl,p2_add,p2_add,show p2 2 = ((4:Nat):Rat) by rw [show (2:Int) = ((2:Nat):Int) by rfl,p2_nat]]
  grind
 have hXX:xE (tS a) (-598) * xE (tS a) (-598) = ((tS a * tS a:Nat):Rat) * p2 (-1196):=by
  unfold xE
  rw [Rat.natCast_mul,show (-1196:Int) = -598+-598 by rfl,p2_add]
  grind
 have hlt:rnd (tS a) (-598) < 9218868437227405312:=by
  have:rnd (tS a) (-598) = tV a:=rfl
  omega
 have e:9007199254740992 * yE (tS a) (-598)≤9007199254740992 * xE (tS a) (-598)+xE (tS a) (-598)∧9007199254740992 * xE (tS a) (-598)≤9007199254740992 * yE (tS a) (-598)+xE (tS a) (-598):=by
  rcases rnd_err _ _ hlt with e | e
  ·exact e
  ·have:rnd (tS a) (-598) = tV a:=rfl
   omega
 have hX0:0≤xE (tS a) (-598):=Rat.mul_nonneg Rat.natCast_nonneg (Rat.le_of_lt (p2_pos _))
 have hY0:0≤yE (tS a) (-598):=Rat.mul_nonneg Rat.natCast_nonneg (Rat.le_of_lt (p2_pos _))
 -- the sticky root's square,beside the number
 have hq3:1152921504606846976 * (4 * q)≤4 * N:=by
  have:=Nat.mul_le_mul_right q hq
  omega
 have d1:1152921504606846976 * (tS a * tS a)≤1152921504606846976 * (4 * N)+4 * N∧1152921504606846976 * (4 * N)≤1152921504606846976 * (tS a * tS a)+4 * N:=by
  generalize tS a * tS a = Z at *
  omega
 have hp:=p2_pos (-1196)
 have c1:=Rat.mul_le_mul_of_nonneg_left (Rat.natCast_le_natCast.2 d1.1) (Rat.le_of_lt hp)
 have c2:=Rat.mul_le_mul_of_nonneg_left (Rat.natCast_le_natCast.2 d1.2) (Rat.le_of_lt hp)
 rw [Rat.natCast_add,Rat.natCast_mul 1152921504606846976,Rat.natCast_mul 1152921504606846976] at c1 c2
 have k60:((1152921504606846976:Nat):Rat) = 1152921504606846976:=rfl
 rw [k60] at c1 c2
 have s0:0≤fQ a:=by rw [hX];exact Rat.mul_nonneg Rat.natCast_nonneg (Rat.le_of_lt hp)
 refine ⟨hfin,hS,by rw [hv];omega,by rw [hr];omega,by rw [hY];exact hY0,?_⟩
 rw [hY]
 have g1:1152921504606846976 * (xE (tS a) (-598) * xE (tS a) (-598))≤1152921504606846976 * fQ a+fQ a:=by rw [hXX,hX];grind
 have g2:1152921504606846976 * fQ a≤1152921504606846976 * (xE (tS a) (-598) * xE (tS a) (-598))+fQ a:=by rw [hXX,hX];grind
 clear c1 c2 d1 hq3 hT hXX hX hN hq2
 generalize xE (tS a) (-598) = X at *
 generalize yE (tS a) (-598) = Y at *
 generalize fQ a = S at *
 obtain ⟨D,hD⟩:∃ D,Y = X+D:=⟨Y - X,by grind⟩
 subst hD
 have m1:=Rat.mul_nonneg hX0 (show 0≤X - 9007199254740992 * D by grind)
 have m2:=Rat.mul_nonneg hX0 (show 0≤X+9007199254740992 * D by grind)
 have m3:=Rat.mul_nonneg (show 0≤X - 9007199254740992 * D by grind) (show 0≤X+9007199254740992 * D by grind)
 have m4:=sq_nonneg D
 constructor
 ·grind
 ·grind
end Go.Proofs.YtdhmglmccafbnaaGreatDoor
namespace Go.Proofs.YtdhmglmccafbnaaGreatDoor
open Go.RowKit
theorem exp_0 (a:Nat) (k:Int) (w:World) (hk:k = 4 ∨ k = 3 ∨ k = 0)
  (C1:∀ w',Calls Tryz.prog 113 #[.int .u64 a] w' fun r w''=>r = .returned (.int .i64 k)∧Below w'.heap.size w' w'') :
  Calls Tryz.prog 153 #[.int .u64 a] w fun r w'=>r = .returned (.int .i64 0)∧Below w.heap.size w w':=by
 have K1:=hide C1
 clear C1
 rcases hk with rfl | rfl | rfl
 all_goals
  go_enter Tryz.func153,Tryz.ntmps153
  go_wp2_with fail
  refine (uH K1 _).mono ?_
  rintro e w1 ⟨rfl,hb1⟩
  clear K1
  go_wp2
  go_ret
  exact ⟨rfl,hb1⟩
theorem exp_f (a:Nat) (k D X t:Int) (w:World) (h4:(k == 4) = false) (h3:(k == 3) = false) (h0:(k == 0) = false) (ht:-2000≤t∧t≤2000) (hT:Tab w)
  (C1:∀ w',Calls Tryz.prog 113 #[.int .u64 a] w' fun r w''=>r = .returned (.int .i64 k)∧Below w'.heap.size w' w'')
  (C2:∀ w',Tab w'→Calls Tryz.prog 207 #[.int .u64 a] w' fun r w''=>DyR w'' r 0 D X∧Below w'.heap.size w' w'')
  (C3:∀ w' v,IsDy w' v D X→Calls Tryz.prog 208 #[v] w' fun r w''=>r = .returned (.int .i64 t)∧Below w'.heap.size w' w'') :
  Calls Tryz.prog 153 #[.int .u64 a] w fun r w'=>r = .returned (.int .i64 (t - 1))∧Below w.heap.size w w':=by
 have K1:=hide C1;have K2:=hide C2;have K3:=hide C3;have HT:=hide hT
 clear C1 C2 C3 hT
 have hw:=wrap_small (t - 1) (by omega)
 go_enter Tryz.func153,Tryz.ntmps153
 go_wp2_with fail
 refine (uH K1 _).mono ?_
 rintro e w1 ⟨rfl,hb1⟩
 have B1:=hide hb1
 clear K1 hb1
 go_wp2_with fail
 refine (uH K2 _ ((uH HT).all (uH B1))).mono ?_
 rintro e w2 ⟨⟨v,rfl,hv⟩,hb1⟩
 obtain ⟨n2,a2,c2,L2,rfl,i2⟩:=hv
 have hb1a:Below w2.heap.size w2 (w2.alloc (.cells #[.bool n2,.slice a2 L2.length c2,.int .i64 X] 41)):=(Below.refl _ _).alloc (Nat.le_refl _) _
 have HY:=hide ((show IsDy w2 (.agg #[.bool n2,.slice a2 L2.length c2,.int .i64 X]) D X from ⟨n2,a2,c2,L2,rfl,i2⟩).below hb1a)
 have B2:=hide ((uH B1).trans ((hb1.trans (hb1a.mono hb1.size)).mono (uH B1).size))
 have x3:=Box3.new w2 (.bool n2) (.slice a2 L2.length c2) (.int .i64 X)
 have z0:=x3.c0;have z1:=x3.c1;have z2:=x3.c2
 clear i2 hb1 hb1a K2 x3 B1
 generalize L2.length = l2 at *
 go_wp2_with fail
 refine (uH K3 _ _ (uH HY)).mono ?_
 rintro e w3 ⟨rfl,hb1⟩
 have B3:=hide ((uH B2).trans (hb1.mono (uH B2).size))
 clear hb1 K3 B2 z0 z1 z2 HY
 go_wp2
 go_ret
 exact ⟨rfl,uH B3⟩
theorem bl_le53 {v:Nat} (h:v < 9007199254740992):bl v≤53:=by
 by_cases h0:v = 0
 ·subst h0;decide
 ·obtain ⟨b1,b2,b3⟩:=bl_spec v h0
  have:=pow_lt_of (Nat.lt_of_le_of_lt b2 (by rw [p53];exact h))
  omega
theorem dtopN {w:World} {v:Value} {D X:Int} (hv:IsDy w v D X) (h1:D % 2 = 1) (h2:D.natAbs < 9007199254740992) (h3:-1074≤X∧X≤1024) :
  Calls Tryz.prog 208 #[v] w fun r w'=>r = .returned (.int .i64 ((bl D.natAbs:Int)+X))∧Below w.heap.size w w':=by
 obtain ⟨na,ao,ca,A,rfl,a1,a2,a3,a4,a5⟩:=hv.right (small_TOP _ (by omega))
 have:=dtop_any na ao ca A X w a1 (by omega)
 have hd:drB na A X = true:=a5.trans (odd_dRt h1 (by omega))
 have hv:val A = D.natAbs:=by rw [← a3,natAbs_sval]
 have hl:=lenL_bl a1.2.1 a2
 have hb:bl D.natAbs≤53:=bl_le53 h2
 rw [hl,hv,wrap_small _ (by omega)] at this
 exact this
def eX (a:Nat):Int:=if fK a = 4 ∨ fK a = 3 ∨ fK a = 0 then 0 else (bl (fD a).natAbs:Int)+fX a - 1
theorem cexp_any (a:Nat) (w:World) (ha:a < 18446744073709551616) (hT:Tab w) :
  Calls Tryz.prog 153 #[.int .u64 a] w fun r w'=>r = .returned (.int .i64 (eX a))∧Below w.heap.size w w':=by
 have C1:=fun w'=>kind_any a w' ha
 unfold eX
 by_cases h:fK a = 4 ∨ fK a = 3 ∨ fK a = 0
 ·rw [if_pos h]
  exact exp_0 a _ w h C1
 ·rw [if_neg h]
  have fa:=fin_of a (by omega) (by omega)
  obtain ⟨z1,z2,z3,z4,z5,z6,z7,z8,z9⟩:=sc_facts a ha fa (by omega)
  exact exp_f a _ (fD a) (fX a) _ w (by simp;omega) (by simp;omega) (by simp;omega) (by omega) hT C1 (fun w' t=>value_some a w' ha fa t) (fun w' v hv=>dtopN hv z1 z2 (by omega))
end Go.Proofs.YtdhmglmccafbnaaGreatDoor
namespace Go.Proofs.YtdhmglmccafbnaaGreatDoor
open Go.RowKit
theorem eta_small:1267650600228229401496703205376 * p2 (-1075)≤1∧0 < p2 (-1075)∧p2 (-1074) = 2 * p2 (-1075):=by
 refine ⟨?_,p2_pos _,?_⟩
 ·have h1:=p2_mono (show (-1075:Int)≤-100 by decide)
  have h2:=p2_neg 100
  have h3:p2 100 = 1267650600228229401496703205376:=by rw [show (100:Int) = ((100:Nat):Int) by rfl,p2_nat];rfl
  rw [h3] at h2
  grind
 ·rw [show (-1074:Int) = -1075+1 by rfl,p2_succ]
theorem p2_big:(1024:Rat)≤p2 1023:=by
 have h:=p2_mono (show (10:Int)≤1023 by decide)
 have h3:p2 10 = 1024:=by rw [show (10:Int) = ((10:Nat):Int) by rfl,p2_nat];rfl
 grind
theorem fQ_pos (a:Nat) (h:fS a = false):0≤fQ a:=by
 rw [fQ_sign,h]
 exact mag_0 _
def sqV (k:Int) (s x:Nat):Nat:=aV s (mV (xV x (-k)) (xV x (-k)))
def dQ (k:Int) (x:Nat):Rat:=fQ x * p2 (-k)
theorem mV_self_sign (t:Nat) (ft:fFin t = true):fS (mV t t) = false∧mV t t < 9223372036854775808:=by
 have hle:=rnd_le (rv (fR t) * rv (fR t)) (-2148)
 rw [mV_any t t ft ft,Bool.xor_self,wrd_false]
 exact ⟨decide_eq_false (by omega),by omega⟩
theorem sq_one (k:Int) (x:Nat) (hx:x < 18446744073709551616) (fx:fFin x = true) (hd:ab (dQ k x)≤2) :
  fFin (mV (xV x (-k)) (xV x (-k))) = true∧fS (mV (xV x (-k)) (xV x (-k))) = false ∧
  9007199254740992 * ab (fQ (mV (xV x (-k)) (xV x (-k))) - dQ k x * dQ k x)≤dQ k x * dQ k x+9007199254740992 * (8 * p2 (-1075)):=by
 obtain ⟨n1,n2,n3⟩:=eta_small
 have hB:=p2_big
 have ha:ab (fQ x) * p2 (-k) = ab (dQ k x):=by
  unfold dQ
  rw [ab_mul,ab_pos (Rat.le_of_lt (p2_pos _))]
 have ft:=scale_fin x (-k) hx fx (by rw [ha];grind)
 have ht:=scale_err x (-k) hx fx ft
 rw [show fQ x * p2 (-k) = dQ k x from rfl] at ht
 have htl:=xV_lt x (-k) hx
 generalize xV x (-k) = t at *
 generalize dQ k x = d at *
 have e1:ab (fQ t - d)≤p2 (-1075):=by
  rcases ht with e | e
  ·rw [e];unfold ab;grind
  ·have:=e.2.2
   grind
 generalize p2 (-1075) = η at *
 clear ht ha
 obtain ⟨δ,hδ⟩:∃ δ,fQ t = d+δ:=⟨fQ t - d,by grind⟩
 rw [hδ] at e1
 have e2:δ≤η∧-δ≤η:=by
  have:=le_ab (d+δ - d)
  grind
 have l:=le_ab d
 have m1:=Rat.mul_nonneg (show 0≤2 - d by grind) (show 0≤η - δ by grind)
 have m2:=Rat.mul_nonneg (show 0≤2 - d by grind) (show 0≤η+δ by grind)
 have m3:=Rat.mul_nonneg (show 0≤2+d by grind) (show 0≤η - δ by grind)
 have m4:=Rat.mul_nonneg (show 0≤2+d by grind) (show 0≤η+δ by grind)
 have m5:=Rat.mul_nonneg (show 0≤η - δ by grind) (show 0≤η+δ by grind)
 have m6:=sq_nonneg δ
 have m7:=sq_nonneg d
 have m8:=Rat.mul_nonneg (show 0≤η by grind) (show 0≤1 - η by grind)
 have m9:=Rat.mul_nonneg (show 0≤2 - d by grind) (show 0≤2+d by grind)
 have hsq:fQ t * fQ t = d * d+2 * (d * δ)+δ * δ:=by rw [hδ];grind
 have hs2:fQ t * fQ t≤d * d+5 * η∧d * d≤fQ t * fQ t+5 * η:=by
  rw [hsq];constructor <;> grind
 have q0:=sq_nonneg (fQ t)
 have fp:=mul_fin t t ft ft (by rw [ab_pos q0];grind)
 refine ⟨fp,(mV_self_sign t ft).1,?_⟩
 have hm:=mul_err t t ft ft fp
 rw [ab_pos q0,n3] at hm
 generalize fQ (mV t t) = P at *
 generalize fQ t * fQ t = Q at *
 rcases hm with e | e
 ·have:=le_ab (P - Q)
  unfold ab
  grind
 ·have:=le_ab (P - Q)
  have:=e.2
  unfold ab
  grind
theorem sq_step (k:Int) (s x:Nat) (T H G:Rat) (hx:x < 18446744073709551616) (fx:fFin x = true) (hd:ab (dQ k x)≤2) (fs:fFin s = true) (ss:fS s = false)
  (hT:T+dQ k x * dQ k x≤G) (hG1:1≤G) (hG2:G≤256) (hH:H≤64 * G)
  (he:9007199254740992 * ab (fQ s - T)≤2 * T+2 * H) :
  fFin (sqV k s x) = true∧fS (sqV k s x) = false∧9007199254740992 * ab (fQ (sqV k s x) - (T+dQ k x * dQ k x))≤2 * (T+dQ k x * dQ k x)+2 * (H+G):=by
 obtain ⟨fp,sp,ep⟩:=sq_one k x hx fx hd
 obtain ⟨n1,n2,n3⟩:=eta_small
 have hB:=p2_big
 unfold sqV
 generalize mV (xV x (-k)) (xV x (-k)) = p at *
 have s0:=fQ_pos s ss
 have p0:=fQ_pos p sp
 have m7:=sq_nonneg (dQ k x)
 generalize dQ k x * dQ k x = D at *
 have l1:=le_ab (fQ s - T)
 have l2:=le_ab (fQ p - D)
 have b0:ab (fQ s+fQ p) = fQ s+fQ p:=ab_pos (by grind)
 have fa:=add_fin s p fs fp (by rw [b0];grind)
 have ea:=add_err s p fs fp fa
 rw [b0] at ea
 refine ⟨fa,?_,?_⟩
 ·have h1:=(aV_fin s p fs fp).2
  have hz:0≤fZ s∧0≤fZ p:=by
   unfold fZ pv;rw [ss,sp];simp only [Bool.false_eq_true,if_false];omega
  obtain ⟨c1,c2⟩:=fin_kind fs
  obtain ⟨c3,c4⟩:=fin_kind fp
  rw [(add_f s p c1 c2 c3 c4).1]
  split
  ·rw [ss,sp];decide
  ·have hle:=rnd_le (aZ s p).natAbs (-1074)
   rw [fS_wrd _ _ (by omega)]
   exact decide_eq_false (by unfold aZ;omega)
 ·have l3:=le_ab (fQ (aV s p) - (fQ s+fQ p))
  generalize fQ (aV s p) = Y at *
  generalize fQ s = S at *
  generalize fQ p = P at *
  generalize p2 (-1075) = η at *
  refine Rat.le_trans (Rat.mul_le_mul_of_nonneg_left (ab_le (y:=ab (Y - (S+P))+ab (S - T)+ab (P - D)) (by grind) (by grind)) (by decide)) ?_
  grind
end Go.Proofs.YtdhmglmccafbnaaGreatDoor
namespace Go.Proofs.YtdhmglmccafbnaaGreatDoor
open Go.RowKit
def ssV (k:Int):Nat→List Nat→Nat
 | s,[]=>s
 | s,x :: xs=>ssV k (sqV k s x) xs
def sqQ (k:Int):List Nat→Rat
 | []=>0
 | x :: xs=>dQ k x * dQ k x+sqQ k xs
theorem sqQ_0 (k:Int) (xs:List Nat):0≤sqQ k xs:=by
 induction xs with
 | nil=>exact Rat.le_refl
 | cons x xs ih =>
  have:=sq_nonneg (dQ k x)
  unfold sqQ
  grind
theorem ss_err (k:Int) (G:Rat) (hG1:1≤G) (hG2:G≤256):∀ (xs:List Nat) (s:Nat) (T H:Rat),(∀ x ∈ xs,x < 18446744073709551616∧fFin x = true∧ab (dQ k x)≤2)→fFin s = true→fS s = false →
  T+sqQ k xs≤G→H+(xs.length:Rat) * G≤64 * G→9007199254740992 * ab (fQ s - T)≤2 * T+2 * H →
  fFin (ssV k s xs) = true∧fS (ssV k s xs) = false∧9007199254740992 * ab (fQ (ssV k s xs) - (T+sqQ k xs))≤2 * (T+sqQ k xs)+2 * (H+(xs.length:Rat) * G):=by
 intro xs
 induction xs with
 | nil =>
  intro s T H _ fs ss _ _ he
  refine ⟨fs,ss,?_⟩
  have e1:ssV k s [] = s:=rfl
  have e2:sqQ k [] = 0:=rfl
  have e3:(([]:List Nat).length:Rat) = 0:=rfl
  rw [e1,e2,e3,Rat.add_zero]
  grind
 | cons x xs ih =>
  intro s T H hx fs ss hT hH he
  obtain ⟨h1,h2,h3⟩:=hx x (List.mem_cons_self)
  have e2:sqQ k (x :: xs) = dQ k x * dQ k x+sqQ k xs:=rfl
  have e3:((x :: xs).length:Rat) = (xs.length:Rat)+1:=by rw [List.length_cons,Rat.natCast_add];rfl
  have e4:((x :: xs).length:Rat) * G = (xs.length:Rat) * G+G:=by rw [e3];grind
  have q0:=sqQ_0 k xs
  have l0:0≤(xs.length:Rat) * G:=Rat.mul_nonneg Rat.natCast_nonneg (by grind)
  rw [e2] at hT ⊢
  rw [e4] at hH ⊢
  obtain ⟨g1,g2,g3⟩:=sq_step k s x T H G h1 h2 h3 fs ss (by grind) hG1 hG2 (by grind) he
  obtain ⟨i1,i2,i3⟩:=ih (sqV k s x) (T+dQ k x * dQ k x) (H+G) (fun y hy=>hx y (List.mem_cons_of_mem _ hy)) g1 g2 (by grind) (by grind) g3
  refine ⟨i1,i2,?_⟩
  rw [show T+(dQ k x * dQ k x+sqQ k xs) = T+dQ k x * dQ k x+sqQ k xs by grind,show H+((xs.length:Rat) * G+G) = H+G+(xs.length:Rat) * G by grind]
  exact i3
def mx (a b:Nat):Nat:=if fK a = 4 ∨ fK b = 4 then 9221120237041090560 else if fZ a < fZ b then b else a
def bgF:Nat→List Nat→Nat
 | m,[]=>m
 | m,x :: xs=>bgF (mx m (fR x)) xs
theorem mag_fZ (r:Nat) (h:r < 9223372036854775808):fZ r = (rv r:Int)∧fR r = r∧fS r = false:=by
 have h1:fR r = r:=by unfold fR;omega
 have h2:fS r = false:=decide_eq_false (by omega)
 refine ⟨?_,h1,h2⟩
 unfold fZ pv
 rw [h1,h2]
 rfl
theorem mx_mag (m r:Nat) (hm:m < 9218868437227405312) (hr:r < 9218868437227405312):mx m r = max m r:=by
 obtain ⟨a1,a2,a3⟩:=mag_fZ m (by omega)
 obtain ⟨b1,b2,b3⟩:=mag_fZ r (by omega)
 have k1:=(fin_kind ((fK_rungs m).2.2.2 (by rw [a2];exact hm))).2
 have k2:=(fin_kind ((fK_rungs r).2.2.2 (by rw [b2];exact hr))).2
 unfold mx
 rw [if_neg (by omega),a1,b1]
 rcases Nat.lt_or_ge m r with h | h
 ·have:=rv8_lt h
  rw [if_pos (by omega)]
  omega
 ·have:=rv_mono h
  rw [if_neg (by omega)]
  omega
theorem bgF_fin:∀ (xs:List Nat) (m:Nat),m < 9218868437227405312→(∀ x ∈ xs,fFin x = true) →
  bgF m xs < 9218868437227405312∧m≤bgF m xs∧(∀ x ∈ xs,fR x≤bgF m xs)∧(bgF m xs = m ∨ ∃ x ∈ xs,fR x = bgF m xs):=by
 intro xs
 induction xs with
 | nil=>intro m hm _;exact ⟨hm,Nat.le_refl _,(fun x hx=>(by cases hx)),Or.inl rfl⟩
 | cons x xs ih =>
  intro m hm hx
  have hr:=fR_fin x (hx x List.mem_cons_self)
  have e:bgF m (x :: xs) = bgF (max m (fR x)) xs:=by
   show bgF (mx m (fR x)) xs = _
   rw [mx_mag m _ hm hr]
  obtain ⟨i1,i2,i3,i4⟩:=ih (max m (fR x)) (by omega) (fun y hy=>hx y (List.mem_cons_of_mem _ hy))
  rw [e]
  refine ⟨i1,by omega,?_,?_⟩
  ·intro y hy
   rcases List.mem_cons.1 hy with rfl | hy
   ·omega
   ·exact i3 y hy
  ·rcases i4 with i4 | ⟨y,hy,i4⟩
   ·rcases Nat.lt_or_ge m (fR x) with h | h
    ·exact .inr ⟨x,List.mem_cons_self,by omega⟩
    ·exact .inl (by omega)
   ·exact .inr ⟨y,List.mem_cons_of_mem _ hy,i4⟩
def nrV (xs:List Nat):Nat:=if bgF 0 xs = 0 ∨ fFin (bgF 0 xs) = false then bgF 0 xs else xV (sV (ssV (eX (bgF 0 xs)) 0 xs)) (eX (bgF 0 xs))
theorem eX_top (a:Nat) (ha:a < 18446744073709551616) (fa:fFin a = true) (a0:fK a ≠ 0):p2 (eX a)≤ab (fQ a)∧ab (fQ a) < p2 (eX a+1):=by
 obtain ⟨a3,a4⟩:=fin_kind fa
 obtain ⟨z1,z2,z3,z4,z5,z6,z7,z8,z9⟩:=sc_facts a ha fa a0
 have h:=xE_top (fD a).natAbs (fX a) z3
 have e:=fD_mag a ha fa a0 0
 rw [Int.add_zero,p2_0,Rat.mul_one,← fQ_ab] at e
 rw [e] at h
 unfold eX
 rw [if_neg (by omega),show (bl (fD a).natAbs:Int)+fX a - 1+1 = (bl (fD a).natAbs:Int)+fX a by omega]
 exact h
def sumQ:List Nat→Rat
 | []=>0
 | x :: xs=>fQ x * fQ x+sumQ xs
theorem sqQ_sum (k:Int) (xs:List Nat):sqQ k xs * (p2 k * p2 k) = sumQ xs:=by
 have hp:=p2_neg k
 induction xs with
 | nil=>exact Rat.zero_mul _
 | cons x xs ih =>
  have e:dQ k x * dQ k x * (p2 k * p2 k) = fQ x * fQ x:=by
   unfold dQ
   rw [show fQ x * p2 (-k) * (fQ x * p2 (-k)) * (p2 k * p2 k) = fQ x * fQ x * ((p2 (-k) * p2 k) * (p2 (-k) * p2 k)) by grind,hp]
   grind
  unfold sqQ sumQ
  rw [Rat.add_mul,e,ih]
theorem sqQ_mem (k:Int):∀ (xs:List Nat) (x:Nat),x ∈ xs→dQ k x * dQ k x≤sqQ k xs:=by
 intro xs
 induction xs with
 | nil=>intro x hx;cases hx
 | cons y ys ih =>
  intro x hx
  have q0:=sqQ_0 k ys
  have q1:=sq_nonneg (dQ k y)
  have e:sqQ k (y :: ys) = dQ k y * dQ k y+sqQ k ys:=rfl
  rw [e]
  rcases List.mem_cons.1 hx with rfl | hx
  ·grind
  ·have:=ih x hx
   grind
theorem sqQ_le (k:Int):∀ (xs:List Nat),(∀ x ∈ xs,ab (dQ k x)≤2)→sqQ k xs≤4 * (xs.length:Rat):=by
 intro xs
 induction xs with
 | nil =>
  intro _
  have e:sqQ k [] = 0:=rfl
  have e3:(([]:List Nat).length:Rat) = 0:=rfl
  rw [e,e3]
  grind
 | cons y ys ih =>
  intro h
  have h1:=ih (fun x hx=>h x (List.mem_cons_of_mem _ hx))
  have h2:=h y List.mem_cons_self
  have l:=le_ab (dQ k y)
  have m:=Rat.mul_nonneg (show 0≤2 - dQ k y by grind) (show 0≤2+dQ k y by grind)
  have e:sqQ k (y :: ys) = dQ k y * dQ k y+sqQ k ys:=rfl
  have e3:((y :: ys).length:Rat) = (ys.length:Rat)+1:=by rw [List.length_cons,Rat.natCast_add];rfl
  rw [e,e3]
  grind
theorem bg_0 (xs:List Nat) (h:∀ x ∈ xs,fFin x = true) (h0:bgF 0 xs = 0):∀ x ∈ xs,fQ x = 0:=by
 obtain ⟨g1,g2,g3,g4⟩:=bgF_fin xs 0 (by decide) h
 intro x hx
 have:=g3 x hx
 exact fQ_nought x ((fK_zero x).2 (by omega))
end Go.Proofs.YtdhmglmccafbnaaGreatDoor
namespace Go.Proofs.YtdhmglmccafbnaaGreatDoor
open Go.RowKit
theorem fZ_rnd (a:Nat) (ha:a < 18446744073709551616) (fa:fFin a = true):pvZ (fZ a) (-1074) = fZ a:=by
 have h:=rnd_rv a ha fa
 by_cases a0:fK a = 0
 ·have hz:fZ a = 0:=by
   have:=fZ_abs a
   rw [(fK_zero a).1 a0,rv_zero] at this
   omega
  rw [hz]
  decide +kernel
 ·obtain ⟨z1,z2⟩:=fZ_neg8 a a0
  unfold pvZ
  rw [z2,fZ_abs,h]
  rfl
theorem add_ge (s p:Nat) (hs:s < 18446744073709551616) (hp:p < 18446744073709551616) (fs:fFin s = true) (fp:fFin p = true) (ss:fS s = false) (sp:fS p = false) :
  fQ s≤fQ (aV s p)∧fQ p≤fQ (aV s p):=by
 have h1:=(aV_fin s p fs fp).2
 have hz:0≤fZ s∧0≤fZ p:=by
  unfold fZ pv;rw [ss,sp];simp only [Bool.false_eq_true,if_false];omega
 have m1:pvZ (fZ s) (-1074)≤pvZ (aZ s p) (-1074):=pvZ_mono (by unfold aZ;omega)
 have m2:pvZ (fZ p) (-1074)≤pvZ (aZ s p) (-1074):=pvZ_mono (by unfold aZ;omega)
 rw [fZ_rnd s hs fs,← h1] at m1
 rw [fZ_rnd p hp fp,← h1] at m2
 have hP:=Rat.le_of_lt (p2_pos (-1074))
 have c1:=Rat.mul_le_mul_of_nonneg_left (Rat.intCast_le_intCast.2 m1) hP
 have c2:=Rat.mul_le_mul_of_nonneg_left (Rat.intCast_le_intCast.2 m2) hP
 unfold fQ
 constructor <;> grind
theorem ss_ge (k:Int) (G:Rat) (hG1:1≤G) (hG2:G≤256):∀ (xs:List Nat) (s:Nat) (T H:Rat),(∀ x ∈ xs,x < 18446744073709551616∧fFin x = true∧ab (dQ k x)≤2)→s < 18446744073709551616→fFin s = true→fS s = false →
  T+sqQ k xs≤G→H+(xs.length:Rat) * G≤64 * G→9007199254740992 * ab (fQ s - T)≤2 * T+2 * H →
  fQ s≤fQ (ssV k s xs)∧∀ x ∈ xs,fQ (mV (xV x (-k)) (xV x (-k)))≤fQ (ssV k s xs):=by
 intro xs
 induction xs with
 | nil =>
  intro s T H _ _ fs ss _ _ he
  exact ⟨Rat.le_refl,fun x hx=>(by cases hx)⟩
 | cons x xs ih =>
  intro s T H hx hs fs ss hT hH he
  obtain ⟨h1,h2,h3⟩:=hx x (List.mem_cons_self)
  have e2:sqQ k (x :: xs) = dQ k x * dQ k x+sqQ k xs:=rfl
  have e3:((x :: xs).length:Rat) = (xs.length:Rat)+1:=by rw [List.length_cons,Rat.natCast_add];rfl
  have e4:((x :: xs).length:Rat) * G = (xs.length:Rat) * G+G:=by rw [e3];grind
  have e5:ssV k s (x :: xs) = ssV k (sqV k s x) xs:=rfl
  have q0:=sqQ_0 k xs
  have l0:0≤(xs.length:Rat) * G:=Rat.mul_nonneg Rat.natCast_nonneg (by grind)
  rw [e2] at hT
  rw [e4] at hH
  obtain ⟨g1,g2,g3⟩:=sq_step k s x T H G h1 h2 h3 fs ss (by grind) hG1 hG2 (by grind) he
  obtain ⟨p1,p2,p3⟩:=sq_one k x h1 h2 h3
  have hpl:mV (xV x (-k)) (xV x (-k)) < 18446744073709551616:=by
   have:=of_decide_eq_false p2
   omega
  obtain ⟨a1,a2⟩:=add_ge s _ hs hpl fs p1 ss p2
  obtain ⟨i1,i2⟩:=ih (sqV k s x) (T+dQ k x * dQ k x) (H+G) (fun y hy=>hx y (List.mem_cons_of_mem _ hy)) (by have:=of_decide_eq_false g2;omega) g1 g2 (by grind) (by grind) g3
  rw [e5]
  have b1:fQ s≤fQ (sqV k s x):=a1
  have b2:fQ (mV (xV x (-k)) (xV x (-k)))≤fQ (sqV k s x):=a2
  refine ⟨Rat.le_trans b1 i1,fun y hy=>?_⟩
  rcases List.mem_cons.1 hy with rfl | hy
  ·exact Rat.le_trans b2 i1
  ·exact i2 y hy
end Go.Proofs.YtdhmglmccafbnaaGreatDoor
