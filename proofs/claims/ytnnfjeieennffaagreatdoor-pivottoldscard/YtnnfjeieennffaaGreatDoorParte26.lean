/- Part 26 of the texts. -/
import Derived.Test.YtnnfjeieennffaaGreatDoorParte25
import Derived.Test.YtnnfjeieennffaaGreatDoorParte20
import Derived.Test.YtnnfjeieennffaaGreatDoorParte23
import Derived.Test.YtnnfjeieennffaaGreatDoorParte21
import Derived.Test.YtnnfjeieennffaaGreatDoorParte22
set_option maxHeartbeats 4000000
set_option maxRecDepth 20000
namespace Go.Proofs.YtnnfjeieennffaaGreatDoor
open Go.RowKit
theorem lt_of_p2 {a b:Int} (h:p2 a < p2 b):a < b:=by
 rcases Int.lt_or_le a b with g | g
 ·exact g
 ·have:=p2_mono g
  grind
theorem xE_top (v:Nat) (E:Int) (h:v ≠ 0):p2 ((bl v:Int)+E - 1)≤xE v E∧xE v E < p2 ((bl v:Int)+E):=by
 obtain ⟨b1,b2,b3⟩:=bl_spec v h
 have hp:=p2_pos E
 constructor
 ·rw [show (bl v:Int)+E - 1 = ((bl v - 1:Nat):Int)+E by omega,p2_add,p2_nat]
  unfold xE
  have:=Rat.mul_le_mul_of_nonneg_left (Rat.natCast_le_natCast.2 b2) (Rat.le_of_lt hp)
  grind
 ·rw [p2_add,p2_nat]
  unfold xE
  have:=Rat.mul_lt_mul_of_pos_left (Rat.natCast_lt_natCast.2 b3) hp
  grind
theorem rnd_finite (v:Nat) (E:Int) (h:xE v E < p2 1023):rnd v E < 9218868437227405312:=by
 by_cases h0:v = 0
 ·rw [h0,rnd_0];decide
 ·have h1:=(xE_top v E h0).1
  have h2:(bl v:Int)+E - 1 < 1023:=lt_of_p2 (by grind)
  by_cases h3:(bl v:Int)+E≤1022
  ·obtain ⟨m1,m2,m3⟩:=rndM_bounds v E h0
   obtain ⟨l1,l2,l3⟩:=lastE_ge v E
   rw [rnd_fin v E h0 (by omega)]
   have:(lastE v E+1074).toNat≤2043:=by omega
   omega
  ·obtain ⟨m1,m2,m3⟩:=rndM_bounds v E h0
   obtain ⟨l1,l2,l3⟩:=lastE_ge v E
   rw [rnd_fin v E h0 (by omega)]
   have:(lastE v E+1074).toNat≤2044:=by omega
   omega
theorem rnd_short (v:Nat) (E:Int) (hb:bl v≤53) (hf:rnd v E < 9218868437227405312) :
  yE v E = xE v E ∨ (xE v E < p2 (-1022)∧rnd v E≤4503599627370496∧2 * yE v E≤2 * xE v E+p2 (-1074)∧2 * xE v E≤2 * yE v E+p2 (-1074)):=by
 by_cases h:v = 0
 ·subst h
  refine .inl ?_
  have e:yE 0 E = 0:=by unfold yE;rw [rnd_0,rv_zero];exact Rat.zero_mul _
  have e2:xE 0 E = 0:=Rat.zero_mul _
  rw [e,e2]
 have ht:=fin_top v E h hf
 obtain ⟨l1,l2,l3⟩:=lastE_ge v E
 obtain ⟨r1,r2,r3⟩:=rnd_half v E h ht
 by_cases hl:lastE v E≤E
 ·exact .inl (r1 hl)
 ·have l4:lastE v E = -1074∧(bl v:Int)+E < -1021:=by omega
  have hx:=(xE_top v E h).2
  have hx2:=p2_mono (show (bl v:Int)+E≤-1022 by omega)
  rcases rnd_err v E hf with e | e
  ·refine .inr ⟨by grind,?_,by rw [l4.1] at r2;exact r2,by rw [l4.1] at r3;exact r3⟩
   obtain ⟨b1,b2,b3⟩:=bl_spec v h
   obtain ⟨k,hk,hk1⟩:∃ k:Nat,E - lastE v E = -(k:Int)∧1≤k:=⟨(lastE v E - E).toNat,by omega,by omega⟩
   have hM:rndM v E≤4503599627370496:=by
    unfold rndM
    rw [hk,mS_down _ _ hk1]
    refine cutE_upto ?_
    have h1:v < 2 ^ (52+k):=Nat.lt_of_lt_of_le b3 (pow_le2 (by omega))
    rw [Nat.pow_add,p52] at h1
    exact Nat.le_of_lt h1
   have h0:(lastE v E+1074).toNat = 0:=by omega
   rw [rnd_fin v E h ht,h0,Nat.zero_mul,Nat.add_zero]
   exact hM
  ·exact .inr ⟨by grind,e.1,e.2.2⟩
theorem fD_mag (a:Nat) (ha:a < 18446744073709551616) (fa:fFin a = true) (a0:fK a ≠ 0) (n:Int):xE (fD a).natAbs (fX a+n) = (rv (fR a):Rat) * p2 (-1074) * p2 n:=by
 obtain ⟨β,x1,x2,x3,x4⟩:=odd_mag a ha fa a0
 unfold xE
 rw [x2,Rat.natCast_mul,← p2_nat,show fX a+n = (β:Int)+-1074+n by omega,p2_add,p2_add]
 grind
theorem xV_fin (a:Nat) (n:Int) (fa:fFin a = true) (a0:fK a ≠ 0):xV a n = wrd (fS a) (rnd (fD a).natAbs (fX a+n)):=by
 obtain ⟨a3,a4⟩:=fin_kind fa
 unfold xV
 rw [if_neg a4,if_neg (by omega)]
theorem xV_nought (a:Nat) (n:Int) (a0:fK a = 0):xV a n = a:=by
 unfold xV
 rw [if_neg (by omega),if_pos (.inr a0)]
theorem fQ_nought (a:Nat) (a0:fK a = 0):fQ a = 0:=by
 have h:=fQ_ab a
 rw [(fK_zero a).1 a0,rv_zero] at h
 have h2:ab (fQ a) = 0:=by rw [h];exact Rat.zero_mul _
 unfold ab at h2
 grind
theorem scale_fin (a:Nat) (n:Int) (ha:a < 18446744073709551616) (fa:fFin a = true) (h:ab (fQ a) * p2 n < p2 1023):fFin (xV a n) = true:=by
 by_cases a0:fK a = 0
 ·rw [xV_nought a n a0];exact fa
 ·rw [xV_fin a n fa a0]
  rw [fQ_ab,← fD_mag a ha fa a0] at h
  have:=rnd_finite _ _ h
  exact (fK_rungs _).2.2.2 (by rw [fR_wrd _ _ (by omega)];exact this)
theorem scale_err (a:Nat) (n:Int) (ha:a < 18446744073709551616) (fa:fFin a = true) (hf:fFin (xV a n) = true) :
  fQ (xV a n) = fQ a * p2 n ∨ (ab (fQ a) * p2 n < p2 (-1022)∧fR (xV a n)≤4503599627370496∧2 * ab (fQ (xV a n) - fQ a * p2 n)≤p2 (-1074)):=by
 by_cases a0:fK a = 0
 ·rw [xV_nought a n a0,fQ_nought a a0,Rat.zero_mul];exact .inl rfl
 ·have hr:=fR_fin _ hf
  have hle:=rnd_le (fD a).natAbs (fX a+n)
  have hR:fR (xV a n) = rnd (fD a).natAbs (fX a+n):=by rw [xV_fin a n fa a0,fR_wrd _ _ (by omega)]
  have hS:fS (xV a n) = fS a:=by rw [xV_fin a n fa a0,fS_wrd _ _ (by omega)]
  rw [hR] at hr
  obtain ⟨z1,z2,z3,z4,z5,z6,z7,z8,z9⟩:=sc_facts a ha fa a0
  have hb:bl (fD a).natAbs≤53:=(dS_facts a ha fa a0).1
  have e:=rnd_short _ _ hb hr
  rw [fD_mag a ha fa a0 n] at e
  unfold yE at e
  rw [fQ_sign (xV a n),hS,hR,fQ_ab,fQ_sign a]
  generalize (rv (rnd (fD a).natAbs (fX a+n)):Rat) * p2 (-1074) = Y at *
  generalize (rv (fR a):Rat) * p2 (-1074) = A at *
  cases fS a <;> simp only [Bool.false_eq_true,if_true,if_false]
  ·rcases e with e | ⟨e1,e2,e3,e4⟩
   ·exact .inl e
   ·refine .inr ⟨e1,e2,?_⟩
    unfold ab;grind
  ·rcases e with e | ⟨e1,e2,e3,e4⟩
   ·refine .inl ?_
    grind
   ·refine .inr ⟨e1,e2,?_⟩
    unfold ab;grind
theorem add_fin (a b:Nat) (fa:fFin a = true) (fb:fFin b = true) (h:ab (fQ a+fQ b) < p2 1023):fFin (aV a b) = true:=by
 obtain ⟨v1,v2⟩:=aV_fin a b fa fb
 have hx:ab (fQ a+fQ b) = xE (aZ a b).natAbs (-1074):=by
  have:fQ a+fQ b = ((aZ a b:Int):Rat) * p2 (-1074):=by
   unfold fQ aZ
   rw [Rat.intCast_add,Rat.add_mul]
  rw [this,cast_abs]
  have n0:(0:Rat)≤((aZ a b).natAbs:Rat) * p2 (-1074):=Rat.mul_nonneg Rat.natCast_nonneg (Rat.le_of_lt (p2_pos _))
  unfold xE ab
  split <;> grind
 rw [hx] at h
 exact (fK_rungs _).2.2.2 (by rw [v1];exact rnd_finite _ _ h)
theorem mul_fin (a b:Nat) (fa:fFin a = true) (fb:fFin b = true) (h:ab (fQ a * fQ b) < p2 1023):fFin (mV a b) = true:=by
 have hx:xE (rv (fR a) * rv (fR b)) (-2148) = ab (fQ a * fQ b):=by
  rw [ab_mul,fQ_ab,fQ_ab]
  unfold xE
  rw [Rat.natCast_mul,show (-2148:Int) = -1074+-1074 by rfl,p2_add]
  grind
 rw [← hx] at h
 have:=rnd_finite _ _ h
 exact (fK_rungs _).2.2.2 (by rw [mV_any a b fa fb,fR_wrd _ _ (by omega)];exact this)
end Go.Proofs.YtnnfjeieennffaaGreatDoor
namespace Go.Proofs.YtnnfjeieennffaaGreatDoor
open Go.RowKit
theorem tS_sq (a:Nat) (h0:fK a ≠ 0):∃ N q:Nat,N = rv (fR a) * 2 ^ 120∧1152921504606846976≤q∧q * q≤N∧(tS a * tS a = 4 * N ∨ (tS a * tS a≤4 * N+4 * q∧4 * N≤tS a * tS a+4 * q)):=by
 refine ⟨_,isq (rv (fR a) * 2 ^ 120),rfl,?_,?_,?_⟩
 ·have:=(tS_low a h0).1
  have e:(2:Nat) ^ 60 = 1152921504606846976:=by decide
  omega
 ·exact (isq_spec _).1
 ·obtain ⟨s1,s2⟩:=isq_spec (rv (fR a) * 2 ^ 120)
  unfold tS rS
  generalize rv (fR a) * 2 ^ 120 = N at *
  generalize isq N = q at *
  have e1:(2 * q) * (2 * q) = 4 * (q * q):=by rw [Nat.mul_mul_mul_comm]
  have e2:(2 * q+1) * (2 * q+1) = 4 * (q * q)+4 * q+1:=by rw [sq_succ,e1];omega
  have e3:=sq_succ q
  by_cases h:q * q = N
  ·rw [if_pos h,Nat.add_zero]
   exact .inl (by rw [e1,h])
  ·rw [if_neg h]
   refine .inr ?_
   rw [e2]
   generalize q * q = Q at *
   omega
theorem sV_pos (a:Nat) (fa:fFin a = true) (a0:fK a ≠ 0) (hs:fS a = false):sV a = tV a:=by
 obtain ⟨a3,a4⟩:=fin_kind fa
 unfold sV
 rw [if_neg a4,if_neg (fun h=>?_),if_neg (by rw [hs];decide)]
 rcases h with h | h
 ·exact a0 h
 ·rw [h] at a3
  exact a3 (by decide)
theorem sqrt_err (a:Nat) (fa:fFin a = true) (a0:fK a ≠ 0) (hs:fS a = false) :
  fFin (sV a) = true∧fS (sV a) = false∧sV a < 18446744073709551616∧4503599627370496 < fR (sV a)∧0≤fQ (sV a)∧9007199254740992 * (fQ (sV a) * fQ (sV a))≤9007199254740992 * fQ a+3 * fQ a∧9007199254740992 * fQ a≤9007199254740992 * (fQ (sV a) * fQ (sV a))+3 * fQ a:=by
 obtain ⟨N,q,hN,hq,hq2,hT⟩:=tS_sq a a0
 obtain ⟨t1,t2⟩:=tV_range a fa a0
 have hv:=sV_pos a fa a0 hs
 have hr:fR (sV a) = tV a:=by rw [hv];unfold fR;omega
 have hS:fS (sV a) = false:=by rw [hv];exact decide_eq_false (by omega)
 have hfin:fFin (sV a) = true:=(fK_rungs _).2.2.2 (by rw [hr];omega)
 have hY:fQ (sV a) = yE (tS a) (-598):=by
  rw [fQ_sign,hS,if_neg (by decide),hr]
  rfl
 have hX:fQ a = ((4 * N:Nat):Rat) * p2 (-1196):=by
  rw [fQ_sign,hs,if_neg (by decide),hN,Rat.natCast_mul,Rat.natCast_mul,← p2_nat,show (-1074:Int) = 2+(120:Nat)+-1196 by rfl,p2_add,p2_add,show p2 2 = ((4:Nat):Rat) by rw [show (2:Int) = ((2:Nat):Int) by rfl,p2_nat]]
  grind
 have hXX:xE (tS a) (-598) * xE (tS a) (-598) = ((tS a * tS a:Nat):Rat) * p2 (-1196):=by
  unfold xE
  rw [Rat.natCast_mul,show (-1196:Int) = -598+-598 by rfl,p2_add]
  grind
 have hlt:rnd (tS a) (-598) < 9218868437227405312:=by
  have:rnd (tS a) (-598) = tV a:=rfl
  omega
 have e:9007199254740992 * yE (tS a) (-598)≤9007199254740992 * xE (tS a) (-598)+xE (tS a) (-598)∧9007199254740992 * xE (tS a) (-598)≤9007199254740992 * yE (tS a) (-598)+xE (tS a) (-598):=by
  rcases rnd_err _ _ hlt with e | e
  ·exact e
  ·have:rnd (tS a) (-598) = tV a:=rfl
   omega
 have hX0:0≤xE (tS a) (-598):=Rat.mul_nonneg Rat.natCast_nonneg (Rat.le_of_lt (p2_pos _))
 have hY0:0≤yE (tS a) (-598):=Rat.mul_nonneg Rat.natCast_nonneg (Rat.le_of_lt (p2_pos _))
 -- the sticky root's square,beside the number
 have hq3:1152921504606846976 * (4 * q)≤4 * N:=by
  have:=Nat.mul_le_mul_right q hq
  omega
 have d1:1152921504606846976 * (tS a * tS a)≤1152921504606846976 * (4 * N)+4 * N∧1152921504606846976 * (4 * N)≤1152921504606846976 * (tS a * tS a)+4 * N:=by
  generalize tS a * tS a = Z at *
  omega
 have hp:=p2_pos (-1196)
 have c1:=Rat.mul_le_mul_of_nonneg_left (Rat.natCast_le_natCast.2 d1.1) (Rat.le_of_lt hp)
 have c2:=Rat.mul_le_mul_of_nonneg_left (Rat.natCast_le_natCast.2 d1.2) (Rat.le_of_lt hp)
 rw [Rat.natCast_add,Rat.natCast_mul 1152921504606846976,Rat.natCast_mul 1152921504606846976] at c1 c2
 have k60:((1152921504606846976:Nat):Rat) = 1152921504606846976:=rfl
 rw [k60] at c1 c2
 have s0:0≤fQ a:=by rw [hX];exact Rat.mul_nonneg Rat.natCast_nonneg (Rat.le_of_lt hp)
 refine ⟨hfin,hS,by rw [hv];omega,by rw [hr];omega,by rw [hY];exact hY0,?_⟩
 rw [hY]
 have g1:1152921504606846976 * (xE (tS a) (-598) * xE (tS a) (-598))≤1152921504606846976 * fQ a+fQ a:=by rw [hXX,hX];grind
 have g2:1152921504606846976 * fQ a≤1152921504606846976 * (xE (tS a) (-598) * xE (tS a) (-598))+fQ a:=by rw [hXX,hX];grind
 clear c1 c2 d1 hq3 hT hXX hX hN hq2
 generalize xE (tS a) (-598) = X at *
 generalize yE (tS a) (-598) = Y at *
 generalize fQ a = S at *
 obtain ⟨D,hD⟩:∃ D,Y = X+D:=⟨Y - X,by grind⟩
 subst hD
 have m1:=Rat.mul_nonneg hX0 (show 0≤X - 9007199254740992 * D by grind)
 have m2:=Rat.mul_nonneg hX0 (show 0≤X+9007199254740992 * D by grind)
 have m3:=Rat.mul_nonneg (show 0≤X - 9007199254740992 * D by grind) (show 0≤X+9007199254740992 * D by grind)
 have m4:=sq_nonneg D
 constructor
 ·grind
 ·grind
end Go.Proofs.YtnnfjeieennffaaGreatDoor
namespace Go.Proofs.YtnnfjeieennffaaGreatDoor
open Go.RowKit
theorem eta_small:1267650600228229401496703205376 * p2 (-1075)≤1∧0 < p2 (-1075)∧p2 (-1074) = 2 * p2 (-1075):=by
 refine ⟨?_,p2_pos _,?_⟩
 ·have h1:=p2_mono (show (-1075:Int)≤-100 by decide)
  have h2:=p2_neg 100
  have h3:p2 100 = 1267650600228229401496703205376:=by rw [show (100:Int) = ((100:Nat):Int) by rfl,p2_nat];rfl
  rw [h3] at h2
  grind
 ·rw [show (-1074:Int) = -1075+1 by rfl,p2_succ]
theorem p2_big:(1024:Rat)≤p2 1023:=by
 have h:=p2_mono (show (10:Int)≤1023 by decide)
 have h3:p2 10 = 1024:=by rw [show (10:Int) = ((10:Nat):Int) by rfl,p2_nat];rfl
 grind
theorem fQ_pos (a:Nat) (h:fS a = false):0≤fQ a:=by
 rw [fQ_sign,h]
 exact mag_0 _
def sqV (k:Int) (s x:Nat):Nat:=aV s (mV (xV x (-k)) (xV x (-k)))
def dQ (k:Int) (x:Nat):Rat:=fQ x * p2 (-k)
theorem mV_self_sign (t:Nat) (ft:fFin t = true):fS (mV t t) = false∧mV t t < 9223372036854775808:=by
 have hle:=rnd_le (rv (fR t) * rv (fR t)) (-2148)
 rw [mV_any t t ft ft,Bool.xor_self,wrd_false]
 exact ⟨decide_eq_false (by omega),by omega⟩
theorem sq_one (k:Int) (x:Nat) (hx:x < 18446744073709551616) (fx:fFin x = true) (hd:ab (dQ k x)≤2) :
  fFin (mV (xV x (-k)) (xV x (-k))) = true∧fS (mV (xV x (-k)) (xV x (-k))) = false ∧
  9007199254740992 * ab (fQ (mV (xV x (-k)) (xV x (-k))) - dQ k x * dQ k x)≤dQ k x * dQ k x+9007199254740992 * (8 * p2 (-1075)):=by
 obtain ⟨n1,n2,n3⟩:=eta_small
 have hB:=p2_big
 have ha:ab (fQ x) * p2 (-k) = ab (dQ k x):=by
  unfold dQ
  rw [ab_mul,ab_pos (Rat.le_of_lt (p2_pos _))]
 have ft:=scale_fin x (-k) hx fx (by rw [ha];grind)
 have ht:=scale_err x (-k) hx fx ft
 rw [show fQ x * p2 (-k) = dQ k x from rfl] at ht
 have htl:=xV_lt x (-k) hx
 generalize xV x (-k) = t at *
 generalize dQ k x = d at *
 have e1:ab (fQ t - d)≤p2 (-1075):=by
  rcases ht with e | e
  ·rw [e];unfold ab;grind
  ·have:=e.2.2
   grind
 generalize p2 (-1075) = η at *
 clear ht ha
 obtain ⟨δ,hδ⟩:∃ δ,fQ t = d+δ:=⟨fQ t - d,by grind⟩
 rw [hδ] at e1
 have e2:δ≤η∧-δ≤η:=by
  have:=le_ab (d+δ - d)
  grind
 have l:=le_ab d
 have m1:=Rat.mul_nonneg (show 0≤2 - d by grind) (show 0≤η - δ by grind)
 have m2:=Rat.mul_nonneg (show 0≤2 - d by grind) (show 0≤η+δ by grind)
 have m3:=Rat.mul_nonneg (show 0≤2+d by grind) (show 0≤η - δ by grind)
 have m4:=Rat.mul_nonneg (show 0≤2+d by grind) (show 0≤η+δ by grind)
 have m5:=Rat.mul_nonneg (show 0≤η - δ by grind) (show 0≤η+δ by grind)
 have m6:=sq_nonneg δ
 have m7:=sq_nonneg d
 have m8:=Rat.mul_nonneg (show 0≤η by grind) (show 0≤1 - η by grind)
 have m9:=Rat.mul_nonneg (show 0≤2 - d by grind) (show 0≤2+d by grind)
 have hsq:fQ t * fQ t = d * d+2 * (d * δ)+δ * δ:=by rw [hδ];grind
 have hs2:fQ t * fQ t≤d * d+5 * η∧d * d≤fQ t * fQ t+5 * η:=by
  rw [hsq];constructor <;> grind
 have q0:=sq_nonneg (fQ t)
 have fp:=mul_fin t t ft ft (by rw [ab_pos q0];grind)
 refine ⟨fp,(mV_self_sign t ft).1,?_⟩
 have hm:=mul_err t t ft ft fp
 rw [ab_pos q0,n3] at hm
 generalize fQ (mV t t) = P at *
 generalize fQ t * fQ t = Q at *
 rcases hm with e | e
 ·have:=le_ab (P - Q)
  unfold ab
  grind
 ·have:=le_ab (P - Q)
  have:=e.2
  unfold ab
  grind
theorem sq_step (k:Int) (s x:Nat) (T H G:Rat) (hx:x < 18446744073709551616) (fx:fFin x = true) (hd:ab (dQ k x)≤2) (fs:fFin s = true) (ss:fS s = false)
  (hT:T+dQ k x * dQ k x≤G) (hG1:1≤G) (hG2:G≤256) (hH:H≤64 * G)
  (he:9007199254740992 * ab (fQ s - T)≤2 * T+2 * H) :
  fFin (sqV k s x) = true∧fS (sqV k s x) = false∧9007199254740992 * ab (fQ (sqV k s x) - (T+dQ k x * dQ k x))≤2 * (T+dQ k x * dQ k x)+2 * (H+G):=by
 obtain ⟨fp,sp,ep⟩:=sq_one k x hx fx hd
 obtain ⟨n1,n2,n3⟩:=eta_small
 have hB:=p2_big
 unfold sqV
 generalize mV (xV x (-k)) (xV x (-k)) = p at *
 have s0:=fQ_pos s ss
 have p0:=fQ_pos p sp
 have m7:=sq_nonneg (dQ k x)
 generalize dQ k x * dQ k x = D at *
 have l1:=le_ab (fQ s - T)
 have l2:=le_ab (fQ p - D)
 have b0:ab (fQ s+fQ p) = fQ s+fQ p:=ab_pos (by grind)
 have fa:=add_fin s p fs fp (by rw [b0];grind)
 have ea:=add_err s p fs fp fa
 rw [b0] at ea
 refine ⟨fa,?_,?_⟩
 ·have h1:=(aV_fin s p fs fp).2
  have hz:0≤fZ s∧0≤fZ p:=by
   unfold fZ pv;rw [ss,sp];simp only [Bool.false_eq_true,if_false];omega
  obtain ⟨c1,c2⟩:=fin_kind fs
  obtain ⟨c3,c4⟩:=fin_kind fp
  rw [(add_f s p c1 c2 c3 c4).1]
  split
  ·rw [ss,sp];decide
  ·have hle:=rnd_le (aZ s p).natAbs (-1074)
   rw [fS_wrd _ _ (by omega)]
   exact decide_eq_false (by unfold aZ;omega)
 ·have l3:=le_ab (fQ (aV s p) - (fQ s+fQ p))
  generalize fQ (aV s p) = Y at *
  generalize fQ s = S at *
  generalize fQ p = P at *
  generalize p2 (-1075) = η at *
  refine Rat.le_trans (Rat.mul_le_mul_of_nonneg_left (ab_le (y:=ab (Y - (S+P))+ab (S - T)+ab (P - D)) (by grind) (by grind)) (by decide)) ?_
  grind
end Go.Proofs.YtnnfjeieennffaaGreatDoor
namespace Go.Proofs.YtnnfjeieennffaaGreatDoor
open Go.RowKit
def ssV (k:Int):Nat→List Nat→Nat
 | s,[]=>s
 | s,x :: xs=>ssV k (sqV k s x) xs
def sqQ (k:Int):List Nat→Rat
 | []=>0
 | x :: xs=>dQ k x * dQ k x+sqQ k xs
theorem sqQ_0 (k:Int) (xs:List Nat):0≤sqQ k xs:=by
 induction xs with
 | nil=>exact Rat.le_refl
 | cons x xs ih =>
  have:=sq_nonneg (dQ k x)
  unfold sqQ
  grind
theorem ss_err (k:Int) (G:Rat) (hG1:1≤G) (hG2:G≤256):∀ (xs:List Nat) (s:Nat) (T H:Rat),(∀ x ∈ xs,x < 18446744073709551616∧fFin x = true∧ab (dQ k x)≤2)→fFin s = true→fS s = false →
  T+sqQ k xs≤G→H+(xs.length:Rat) * G≤64 * G→9007199254740992 * ab (fQ s - T)≤2 * T+2 * H →
  fFin (ssV k s xs) = true∧fS (ssV k s xs) = false∧9007199254740992 * ab (fQ (ssV k s xs) - (T+sqQ k xs))≤2 * (T+sqQ k xs)+2 * (H+(xs.length:Rat) * G):=by
 intro xs
 induction xs with
 | nil =>
  intro s T H _ fs ss _ _ he
  refine ⟨fs,ss,?_⟩
  have e1:ssV k s [] = s:=rfl
  have e2:sqQ k [] = 0:=rfl
  have e3:(([]:List Nat).length:Rat) = 0:=rfl
  rw [e1,e2,e3,Rat.add_zero]
  grind
 | cons x xs ih =>
  intro s T H hx fs ss hT hH he
  obtain ⟨h1,h2,h3⟩:=hx x (List.mem_cons_self)
  have e2:sqQ k (x :: xs) = dQ k x * dQ k x+sqQ k xs:=rfl
  have e3:((x :: xs).length:Rat) = (xs.length:Rat)+1:=by rw [List.length_cons,Rat.natCast_add];rfl
  have e4:((x :: xs).length:Rat) * G = (xs.length:Rat) * G+G:=by rw [e3];grind
  have q0:=sqQ_0 k xs
  have l0:0≤(xs.length:Rat) * G:=Rat.mul_nonneg Rat.natCast_nonneg (by grind)
  rw [e2] at hT ⊢
  rw [e4] at hH ⊢
  obtain ⟨g1,g2,g3⟩:=sq_step k s x T H G h1 h2 h3 fs ss (by grind) hG1 hG2 (by grind) he
  obtain ⟨i1,i2,i3⟩:=ih (sqV k s x) (T+dQ k x * dQ k x) (H+G) (fun y hy=>hx y (List.mem_cons_of_mem _ hy)) g1 g2 (by grind) (by grind) g3
  refine ⟨i1,i2,?_⟩
  rw [show T+(dQ k x * dQ k x+sqQ k xs) = T+dQ k x * dQ k x+sqQ k xs by grind,show H+((xs.length:Rat) * G+G) = H+G+(xs.length:Rat) * G by grind]
  exact i3
def mx (a b:Nat):Nat:=if fK a = 4 ∨ fK b = 4 then 9221120237041090560 else if fZ a < fZ b then b else a
def bgF:Nat→List Nat→Nat
 | m,[]=>m
 | m,x :: xs=>bgF (mx m (fR x)) xs
theorem mag_fZ (r:Nat) (h:r < 9223372036854775808):fZ r = (rv r:Int)∧fR r = r∧fS r = false:=by
 have h1:fR r = r:=by unfold fR;omega
 have h2:fS r = false:=decide_eq_false (by omega)
 refine ⟨?_,h1,h2⟩
 unfold fZ pv
 rw [h1,h2]
 rfl
theorem mx_mag (m r:Nat) (hm:m < 9218868437227405312) (hr:r < 9218868437227405312):mx m r = max m r:=by
 obtain ⟨a1,a2,a3⟩:=mag_fZ m (by omega)
 obtain ⟨b1,b2,b3⟩:=mag_fZ r (by omega)
 have k1:=(fin_kind ((fK_rungs m).2.2.2 (by rw [a2];exact hm))).2
 have k2:=(fin_kind ((fK_rungs r).2.2.2 (by rw [b2];exact hr))).2
 unfold mx
 rw [if_neg (by omega),a1,b1]
 rcases Nat.lt_or_ge m r with h | h
 ·have:=rv8_lt h
  rw [if_pos (by omega)]
  omega
 ·have:=rv_mono h
  rw [if_neg (by omega)]
  omega
theorem bgF_fin:∀ (xs:List Nat) (m:Nat),m < 9218868437227405312→(∀ x ∈ xs,fFin x = true) →
  bgF m xs < 9218868437227405312∧m≤bgF m xs∧(∀ x ∈ xs,fR x≤bgF m xs)∧(bgF m xs = m ∨ ∃ x ∈ xs,fR x = bgF m xs):=by
 intro xs
 induction xs with
 | nil=>intro m hm _;exact ⟨hm,Nat.le_refl _,(fun x hx=>(by cases hx)),Or.inl rfl⟩
 | cons x xs ih =>
  intro m hm hx
  have hr:=fR_fin x (hx x List.mem_cons_self)
  have e:bgF m (x :: xs) = bgF (max m (fR x)) xs:=by
   show bgF (mx m (fR x)) xs = _
   rw [mx_mag m _ hm hr]
  obtain ⟨i1,i2,i3,i4⟩:=ih (max m (fR x)) (by omega) (fun y hy=>hx y (List.mem_cons_of_mem _ hy))
  rw [e]
  refine ⟨i1,by omega,?_,?_⟩
  ·intro y hy
   rcases List.mem_cons.1 hy with rfl | hy
   ·omega
   ·exact i3 y hy
  ·rcases i4 with i4 | ⟨y,hy,i4⟩
   ·rcases Nat.lt_or_ge m (fR x) with h | h
    ·exact .inr ⟨x,List.mem_cons_self,by omega⟩
    ·exact .inl (by omega)
   ·exact .inr ⟨y,List.mem_cons_of_mem _ hy,i4⟩
def nrV (xs:List Nat):Nat:=if bgF 0 xs = 0 ∨ fFin (bgF 0 xs) = false then bgF 0 xs else xV (sV (ssV (eX (bgF 0 xs)) 0 xs)) (eX (bgF 0 xs))
theorem eX_top (a:Nat) (ha:a < 18446744073709551616) (fa:fFin a = true) (a0:fK a ≠ 0):p2 (eX a)≤ab (fQ a)∧ab (fQ a) < p2 (eX a+1):=by
 obtain ⟨a3,a4⟩:=fin_kind fa
 obtain ⟨z1,z2,z3,z4,z5,z6,z7,z8,z9⟩:=sc_facts a ha fa a0
 have h:=xE_top (fD a).natAbs (fX a) z3
 have e:=fD_mag a ha fa a0 0
 rw [Int.add_zero,p2_0,Rat.mul_one,← fQ_ab] at e
 rw [e] at h
 unfold eX
 rw [if_neg (by omega),show (bl (fD a).natAbs:Int)+fX a - 1+1 = (bl (fD a).natAbs:Int)+fX a by omega]
 exact h
theorem sqQ_mem (k:Int):∀ (xs:List Nat) (x:Nat),x ∈ xs→dQ k x * dQ k x≤sqQ k xs:=by
 intro xs
 induction xs with
 | nil=>intro x hx;cases hx
 | cons y ys ih =>
  intro x hx
  have q0:=sqQ_0 k ys
  have q1:=sq_nonneg (dQ k y)
  have e:sqQ k (y :: ys) = dQ k y * dQ k y+sqQ k ys:=rfl
  rw [e]
  rcases List.mem_cons.1 hx with rfl | hx
  ·grind
  ·have:=ih x hx
   grind
theorem sqQ_le (k:Int):∀ (xs:List Nat),(∀ x ∈ xs,ab (dQ k x)≤2)→sqQ k xs≤4 * (xs.length:Rat):=by
 intro xs
 induction xs with
 | nil =>
  intro _
  have e:sqQ k [] = 0:=rfl
  have e3:(([]:List Nat).length:Rat) = 0:=rfl
  rw [e,e3]
  grind
 | cons y ys ih =>
  intro h
  have h1:=ih (fun x hx=>h x (List.mem_cons_of_mem _ hx))
  have h2:=h y List.mem_cons_self
  have l:=le_ab (dQ k y)
  have m:=Rat.mul_nonneg (show 0≤2 - dQ k y by grind) (show 0≤2+dQ k y by grind)
  have e:sqQ k (y :: ys) = dQ k y * dQ k y+sqQ k ys:=rfl
  have e3:((y :: ys).length:Rat) = (ys.length:Rat)+1:=by rw [List.length_cons,Rat.natCast_add];rfl
  rw [e,e3]
  grind
end Go.Proofs.YtnnfjeieennffaaGreatDoor
namespace Go.Proofs.YtnnfjeieennffaaGreatDoor
open Go.RowKit
theorem vadd_any (a b:Nat) (w:World) (ha:a < 18446744073709551616) (hb:b < 18446744073709551616) (hT:Tab w) :
  Calls Tryz.prog 188 #[.int .u64 a,.int .u64 b] w fun r w'=>r = .returned (.int .u64 (aV a b:Nat))∧Below w.heap.size w w':=by
 have K:=hide (sadd_any a b w ha hb hT)
 clear ha hb hT
 generalize aV a b = o at *
 generalize aF a b = f at *
 go_enter Tryz.func188,Tryz.ntmps188
 go_wp2_with fail
 refine Calls.mono (uH K) ?_
 rintro e w1 ⟨rfl,hb1⟩
 clear K
 go_wp2
 go_ret
 exact ⟨rfl,hb1⟩
theorem vmul_any (a b:Nat) (w:World) (ha:a < 18446744073709551616) (hb:b < 18446744073709551616) (hT:Tab w) :
  Calls Tryz.prog 176 #[.int .u64 a,.int .u64 b] w fun r w'=>r = .returned (.int .u64 (mV a b:Nat))∧Below w.heap.size w w':=by
 have K:=hide (tmul_any a b w ha hb hT)
 clear ha hb hT
 generalize mV a b = o at *
 generalize mF a b = f at *
 go_enter Tryz.func176,Tryz.ntmps176
 go_wp2_with fail
 refine Calls.mono (uH K) ?_
 rintro e w1 ⟨rfl,hb1⟩
 clear K
 go_wp2
 go_ret
 exact ⟨rfl,hb1⟩
theorem vscale_any (a:Nat) (n:Int) (w:World) (ha:a < 18446744073709551616) (hT:Tab w) :
  Calls Tryz.prog 45 #[.int .u64 a,.int .i64 n] w fun r w'=>r = .returned (.int .u64 (xV a n:Nat))∧Below w.heap.size w w':=by
 have K:=hide (cscale_any a n w ha hT)
 clear ha hT
 generalize xV a n = o at *
 generalize xF a n = f at *
 go_enter Tryz.func45,Tryz.ntmps45
 go_wp2_with fail
 refine Calls.mono (uH K) ?_
 rintro e w1 ⟨rfl,hb1⟩
 clear K
 go_wp2
 go_ret
 exact ⟨rfl,hb1⟩
theorem vfit_any (ao bo:Option Addr) (n m c d:Nat) (w:World) :
  Calls Tryz.prog 193 #[.slice ao n c,.slice bo m d] w fun r w'=>r = .returned (.bool (decide (n≤64∧n = m)))∧w = w':=by
 by_cases h1:n≤64
 ·have h1I:(n:Int)≤64:=by omega
  by_cases h2:n = m
  ·rw [decide_eq_true (And.intro h1 h2)]
   subst h2
   go_enter Tryz.func193,Tryz.ntmps193
   go_wp2
   go_ret
   exact ⟨rfl,rfl⟩
  ·rw [decide_eq_false (fun h=>h2 h.2)]
   have h2I:decide ((n:Int) = (m:Int)) = false:=decide_eq_false (by omega)
   go_enter Tryz.func193,Tryz.ntmps193
   go_wp2
   go_ret
   exact ⟨by simp;omega,rfl⟩
 ·rw [decide_eq_false (fun h=>h1 h.1)]
  have h1I:(64:Int) < (n:Int):=by omega
  go_enter Tryz.func193,Tryz.ntmps193
  go_wp2
  go_ret
  exact ⟨by simp,rfl⟩
theorem f9_any (b:Nat) (w:World) (_h:b < 18446744073709551616) :
  Calls Tryz.prog 93 #[.int .u64 b] w fun r w'=>r = .returned (.float .f64 b)∧w = w':=by
 have hF:=fun W=>frombits5 b W
 have hw:IntKind.u64.wrap (b:Int) = (b:Int):=by simp only [IntKind.wrap_u64];omega
 go_enter Tryz.func93,Tryz.ntmps93
 go_wp2
 go_ret
 exact ⟨rfl,rfl⟩
theorem b9_of (R v:Nat) (w:World) (C:∀ w',Calls Tryz.prog 63 #[.int .u64 (R:Nat)] w' fun r w''=>r = .returned (.int .u64 (v:Nat))∧w' = w'') :
  Calls Tryz.prog 27 #[.float .f64 R] w fun r w'=>r = .returned (.int .u64 (v:Nat))∧w = w':=by
 have K:=hide C
 have hB:=fun R W=>tobits5 R W
 clear C
 go_enter Tryz.func27,Tryz.ntmps27
 go_wp2_with fail
 refine (uH K _).mono ?_
 rintro e w2 ⟨rfl,rfl⟩
 clear K
 go_wp2
 go_ret
 exact ⟨rfl,rfl⟩
theorem r9shift_of (a l v:Nat) (n:Int) (w:World)
  (F1:∀ w',Calls Tryz.prog 93 #[.int .u64 a] w' fun r w''=>r = .returned (.float .f64 a)∧w' = w'')
  (S1:∀ w',Calls Tryz.prog 92 #[.float .f64 a,.int .i64 n] w' fun r w''=>r = .returned (.float .f64 l)∧w' = w'')
  (N1:∀ w',Calls Tryz.prog 27 #[.float .f64 l] w' fun r w''=>r = .returned (.int .u64 v)∧w' = w'') :
  Calls Tryz.prog 48 #[.int .u64 a,.int .i64 n] w fun r w'=>r = .returned (.int .u64 (v:Nat))∧Below w.heap.size w w':=by
 have L1:=hide F1;have L2:=hide S1;have M1:=hide N1
 clear F1 S1 N1
 go_enter Tryz.func48,Tryz.ntmps48
 go_wp2_with fail
 refine (uH L1 _).mono ?_
 rintro e w2 ⟨rfl,rfl⟩
 go_wp2_with fail
 refine (uH L2 _).mono ?_
 rintro e w2 ⟨rfl,rfl⟩
 go_wp2_with fail
 refine (uH M1 _).mono ?_
 rintro e w2 ⟨rfl,rfl⟩
 clear L1 L2 M1
 go_wp2
 go_ret
 exact ⟨rfl,Below.refl _ _⟩
theorem r9shift_any (a:Nat) (n:Int) (w:World) (ha:a < 18446744073709551616) (hn:-5000≤n∧n≤5000) :
  Calls Tryz.prog 48 #[.int .u64 a,.int .i64 n] w fun r w'=>r = .returned (.int .u64 (xV a n:Nat))∧Below w.heap.size w w' :=
 r9shift_of a (lV a n) (xV a n) n w (fun w'=>f9_any a w' ha) (fun w'=>Ldexp_any a n w' ha hn) (fun w'=>b9_of _ _ w' (fun w''=>canon_lV a n w'' ha))
end Go.Proofs.YtnnfjeieennffaaGreatDoor
