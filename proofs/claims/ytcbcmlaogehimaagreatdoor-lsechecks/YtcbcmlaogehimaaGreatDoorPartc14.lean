/- Part 14 of the texts. -/
import Derived.Test.YtcbcmlaogehimaaGreatDoorPartc12
import Derived.Test.YtcbcmlaogehimaaGreatDoorPartc13
set_option maxHeartbeats 2000000
set_option maxRecDepth 20000
namespace Go.Proofs.YtcbcmlaogehimaaGreatDoor
def stk (N d:Nat):Nat:=2 * (N / d)+(if N % d = 0 then 0 else 1)
def cutQ (N D:Nat):Nat:=N / D+(if D < 2 * (N % D) ∨ (D = 2 * (N % D)∧N / D % 2 = 1) then 1 else 0)
theorem cutQ_scale (N D i:Nat):cutQ (N * 2 ^ i) (D * 2 ^ i) = cutQ N D:=by
 have hp:0 < 2 ^ i:=Nat.two_pow_pos _
 unfold cutQ
 rw [Nat.mul_div_mul_right _ _ hp,Nat.mul_mod_mul_right]
 have h1:(D * 2 ^ i < 2 * (N % D * 2 ^ i)) ↔ D < 2 * (N % D):=by
  rw [← Nat.mul_assoc];exact Nat.mul_lt_mul_right hp
 have h2:(D * 2 ^ i = 2 * (N % D * 2 ^ i)) ↔ D = 2 * (N % D):=by
  rw [← Nat.mul_assoc];exact ⟨fun h=>Nat.eq_of_mul_eq_mul_right hp h,fun h=>by rw [← h]⟩
 simp only [h1,h2]
theorem stk_cut (N d k:Nat) (hd:0 < d) (hk:1≤k):cutE (stk N d) (k+1) = cutQ N (d * 2 ^ k):=by
 obtain ⟨j,rfl⟩:∃ j,k = j+1:=⟨k - 1,by omega⟩
 have hN:=Nat.div_add_mod N d
 have hr:=Nat.mod_lt N hd
 have hg:0 < 2 ^ j:=Nat.two_pow_pos _
 have e1:(2:Nat) ^ (j+1) = 2 * 2 ^ j:=by rw [Nat.pow_succ,Nat.mul_comm]
 have e2:(2:Nat) ^ (j+1+1) = 2 * (2 * 2 ^ j):=by rw [Nat.pow_succ,e1,Nat.mul_comm]
 have ht:(if N % d = 0 then 0 else 1)≤1:=by split <;> omega
 have htz:(if N % d = 0 then 0 else 1) = 0 ↔ N % d = 0:=by split <;> simp_all
 unfold cutE cutQ stk
 rw [e2,e1]
 generalize (2:Nat) ^ j = g at *
 generalize (if N % d = 0 then 0 else 1) = t at *
 have hq:=Nat.div_add_mod (N / d) (2 * g)
 have ha:=Nat.mod_lt (N / d) (show 0 < 2 * g by omega)
 have dv:N / (d * (2 * g)) = N / d / (2 * g):=(Nat.div_div_eq_div_mul N d (2 * g)).symm
 have md:N % (d * (2 * g)) = d * (N / d % (2 * g))+N % d:=by
  rw [Nat.mod_mul];omega
 rw [dv,md]
 generalize N % d = r at *
 generalize N / d = q at *
 generalize hA:q % (2 * g) = a at *
 generalize hQ:q / (2 * g) = b at *
 have s1:(2 * q+t) / (2 * (2 * g)) = b:=by
  rw [← hq,Nat.mul_add,← Nat.mul_assoc 2 (2 * g) b,Nat.add_assoc]
  rw [Nat.mul_add_div (by omega),Nat.div_eq_of_lt (by omega),Nat.add_zero]
 have s2:(2 * q+t) % (2 * (2 * g)) = 2 * a+t:=by
  rw [← hq,Nat.mul_add,← Nat.mul_assoc 2 (2 * g) b,Nat.add_assoc,Nat.mul_add_mod,Nat.mod_eq_of_lt (by omega)]
 rw [s1,s2]
 congr 1
 -- where a stands beside half
 rcases Nat.lt_trichotomy a g with h | h | h
 ·have:d * a+d≤d * g:=by rw [← Nat.mul_succ];exact Nat.mul_le_mul_left d h
  have e3:d * (2 * g) = 2 * (d * g):=by rw [Nat.mul_left_comm]
  rw [e3]
  rw [if_neg (by omega),if_neg (by omega)]
 ·subst h
  have e3:d * (2 * a) = 2 * (d * a):=by rw [Nat.mul_left_comm]
  rw [e3]
  by_cases h0:r = 0
  ·have:=htz.2 h0
   by_cases h1:b % 2 = 1
   ·rw [if_pos (Or.inr ⟨by omega,h1⟩),if_pos (Or.inr ⟨by omega,h1⟩)]
   ·rw [if_neg (by omega),if_neg (by omega)]
  ·have:t ≠ 0:=fun e=>h0 (htz.1 e)
   rw [if_pos (Or.inl (by omega)),if_pos (Or.inl (by omega))]
 ·have:d * g+d≤d * a:=by rw [← Nat.mul_succ];exact Nat.mul_le_mul_left d h
  have e3:d * (2 * g) = 2 * (d * g):=by rw [Nat.mul_left_comm]
  rw [e3]
  rw [if_pos (Or.inl (by omega)),if_pos (Or.inl (by omega))]
theorem stk_bl (N d i:Nat) (hd:0 < d) (hq:0 < N / d):bl (stk (N * 2 ^ i) d) = bl (stk N d)+i:=by
 have hp:0 < 2 ^ i:=Nat.two_pow_pos _
 have hs:stk N d ≠ 0:=by unfold stk;omega
 obtain ⟨b1,b2,b3⟩:=bl_spec (stk N d) hs
 have h1:2≤stk N d:=by unfold stk;omega
 have hb2:2≤bl (stk N d):=by
  rcases Nat.lt_or_ge (bl (stk N d)) 2 with h | h
  ·have:bl (stk N d) = 1:=by omega
   rw [this] at b3;omega
  ·exact h
 obtain ⟨c,hc⟩:∃ c,bl (stk N d) = c+2:=⟨bl (stk N d) - 2,by omega⟩
 rw [hc] at b2 b3 ⊢
 -- of whole quotients: 2^c≤N / d < 2^(c+1)
 have q1:2 ^ (c+1)≤N / d * 2:=by
  rw [show c+2 - 1 = c+1 by omega,Nat.pow_succ] at b2
  unfold stk at b2
  rw [Nat.pow_succ]
  have ht:(if N % d = 0 then 0 else 1)≤1:=by split <;> omega
  omega
 have q2:N / d < 2 ^ (c+1):=by
  rw [Nat.pow_succ] at b3
  unfold stk at b3
  omega
 have q3:2 ^ c≤N / d:=by rw [Nat.pow_succ] at q1;omega
 have n1:2 ^ c * d≤N:=(Nat.le_div_iff_mul_le hd).1 q3
 have n2:N < 2 ^ (c+1) * d:=(Nat.div_lt_iff_lt_mul hd).1 q2
 have m1:2 ^ (c+i)≤N * 2 ^ i / d:=(Nat.le_div_iff_mul_le hd).2 (by
  rw [Nat.pow_add,Nat.mul_right_comm];exact Nat.mul_le_mul_right _ n1)
 have m2:N * 2 ^ i / d < 2 ^ (c+1+i):=(Nat.div_lt_iff_lt_mul hd).2 (by
  rw [Nat.pow_add,Nat.mul_right_comm];exact (Nat.mul_lt_mul_right hp).2 n2)
 refine bl_of (by omega) ?_ ?_
 ·rw [show c+2+i - 1 = c+i+1 by omega,Nat.pow_succ]
  unfold stk
  omega
 ·rw [show c+2+i = c+1+i+1 by omega,Nat.pow_succ]
  unfold stk
  have ht:(if N * 2 ^ i % d = 0 then 0 else 1)≤1:=by split <;> omega
  omega
theorem stk_big {N d:Nat} (hq:9007199254740992≤N / d):55≤bl (stk N d):=by
 have hs:stk N d ≠ 0:=by unfold stk;omega
 obtain ⟨b1,b2,b3⟩:=bl_spec (stk N d) hs
 have h:2 ^ 54≤stk N d:=by
  have:(2:Nat) ^ 54 = 2 * 9007199254740992:=by decide
  rw [this];unfold stk;omega
 have:=pow_lt_of (Nat.lt_of_le_of_lt h b3)
 omega
theorem stk_step (N d i:Nat) (E:Int) (hd:0 < d) (hq:9007199254740992≤N / d) :
  rnd (stk (N * 2 ^ i) d) (E - i) = rnd (stk N d) E∧lastE (stk (N * 2 ^ i) d) (E - i) = lastE (stk N d) E∧(bl (stk (N * 2 ^ i) d):Int)+(E - i) = (bl (stk N d):Int)+E∧E+2≤lastE (stk N d) E:=by
 have hb:=stk_bl N d i hd (by omega)
 have h55:=stk_big hq
 have hs:stk N d ≠ 0:=by unfold stk;omega
 have hs':stk (N * 2 ^ i) d ≠ 0:=fun h=>by
  rw [h] at hb
  have:bl 0 = 0:=rfl
  omega
 have hl:lastE (stk (N * 2 ^ i) d) (E - i) = lastE (stk N d) E:=by unfold lastE;rw [hb];omega
 have hbE:(bl (stk (N * 2 ^ i) d):Int)+(E - i) = (bl (stk N d):Int)+E:=by rw [hb];omega
 have h2:E+2≤lastE (stk N d) E:=by have:=(lastE_ge (stk N d) E).2.1;omega
 refine ⟨?_,hl,hbE,h2⟩
 have hM:rndM (stk (N * 2 ^ i) d) (E - i) = rndM (stk N d) E:=by
  unfold rndM
  rw [hl]
  obtain ⟨k,hk⟩:∃ k:Nat,lastE (stk N d) E = E+k+1∧1≤k:=⟨(lastE (stk N d) E - E - 1).toNat,by omega,by omega⟩
  rw [show E - i - lastE (stk N d) E = -((k+i+1:Nat):Int) by omega,show E - lastE (stk N d) E = -((k+1:Nat):Int) by omega]
  rw [mS_down _ _ (by omega),mS_down _ _ (by omega),stk_cut _ _ _ hd (by omega),stk_cut _ _ _ hd (by omega)]
  rw [Nat.pow_add,← Nat.mul_assoc]
  exact cutQ_scale _ _ _
 unfold rnd
 rw [if_neg hs,if_neg hs',hbE,hM,hl]
theorem stk_flag (N d i:Nat) (E:Int) (hd:d % 2 = 1) (hq:9007199254740992≤N / d) :
  rflag (oM (stk (N * 2 ^ i) d:Nat)).natAbs (oE (stk (N * 2 ^ i) d:Nat) (E - i)) = rflag (oM (stk N d:Nat)).natAbs (oE (stk N d:Nat) E):=by
 have hd0:0 < d:=by omega
 obtain ⟨s1,s2,s3,s4⟩:=stk_step N d i E hd0 hq
 by_cases h0:N % d = 0
 ·have hN:N = N / d * d:=by have:=Nat.div_add_mod N d;rw [h0,Nat.add_zero,Nat.mul_comm] at this;exact this.symm
  have h1:N * 2 ^ i % d = 0:=by rw [Nat.mul_mod,h0];simp
  have h2:N * 2 ^ i / d = N / d * 2 ^ i:=by
   conv=>lhs;rw [hN,Nat.mul_right_comm]
   exact Nat.mul_div_cancel _ hd0
  have e:stk (N * 2 ^ i) d = stk N d * 2 ^ i:=by
   unfold stk;rw [if_pos h0,if_pos h1,h2];rw [Nat.add_zero,Nat.add_zero,Nat.mul_assoc]
  have e2:((stk (N * 2 ^ i) d:Nat):Int) = ((stk N d:Nat):Int) * 2 ^ i:=by rw [e,Int.natCast_mul,Int.natCast_pow];rfl
  have:=oM_scale ((stk N d:Nat):Int) i (E - i)
  rw [e2,this.1,this.2,show E - (i:Int)+i = E by omega]
 ·have h1:N * 2 ^ i % d ≠ 0:=fun h=>h0 (by
   have hdv:d ∣ N * 2 ^ i:=Nat.dvd_of_mod_eq_zero h
   have hc:Nat.Coprime d (2 ^ i):=by
    apply Nat.Coprime.pow_right
    unfold Nat.Coprime
    have h4:Nat.gcd d 2 ∣ 2:=Nat.gcd_dvd_right d 2
    have h5:Nat.gcd d 2 ∣ d:=Nat.gcd_dvd_left d 2
    have h6:Nat.gcd d 2≤2:=Nat.le_of_dvd (by decide) h4
    have h7:Nat.gcd d 2 ≠ 0:=fun e=>by rw [e] at h4;exact absurd (Nat.eq_zero_of_zero_dvd h4) (by decide)
    have h8:Nat.gcd d 2 ≠ 2:=fun e=>by rw [e] at h5;omega
    omega
   exact Nat.mod_eq_zero_of_dvd (hc.dvd_of_dvd_mul_right hdv))
  have o1:((stk N d:Nat):Int) % 2 = 1:=by unfold stk;rw [if_neg h0];omega
  have o2:((stk (N * 2 ^ i) d:Nat):Int) % 2 = 1:=by unfold stk;rw [if_neg h1];omega
  have z1:∀ (v:Nat) (e:Int),(v:Int) % 2 = 1→oM (v:Int) = v∧oE (v:Int) e = e:=fun v e h=>by
   have hne:(v:Int) ≠ 0:=by omega
   have a:=(oddOf (v:Int) hne).unique (m':=(v:Int)) (k':=0) ⟨by simp,h⟩
   exact ⟨a.1,by rw [oE_ne _ _ hne,a.2];simp⟩
  rw [(z1 _ (E - i) o2).1,(z1 _ (E - i) o2).2,(z1 _ E o1).1,(z1 _ E o1).2,Int.natAbs_natCast,Int.natAbs_natCast]
  have n1:stk N d ≠ 0:=by omega
  have n2:stk (N * 2 ^ i) d ≠ 0:=by omega
  unfold rflag
  rw [if_neg n1,if_neg n2,s3,s2,s1,if_neg (show ¬ lastE (stk N d) E≤E - i by omega),if_neg (show ¬ lastE (stk N d) E≤E by omega)]
theorem stk_any (n d p q:Nat) (c:Int) (hd:0 < d) (hp:9007199254740992≤n * 2 ^ p / d) (hq:9007199254740992≤n * 2 ^ q / d) :
  rnd (stk (n * 2 ^ p) d) (c - p) = rnd (stk (n * 2 ^ q) d) (c - q):=by
 have h1:=(stk_step (n * 2 ^ p) d q (c - p) hd hp).1
 have h2:=(stk_step (n * 2 ^ q) d p (c - q) hd hq).1
 rw [Nat.mul_assoc,← Nat.pow_add] at h1 h2
 rw [Nat.add_comm q p,show c - (q:Int) - p = c - p - q by omega] at h2
 rw [← h1,← h2]
theorem stk_any_flag (n d p q:Nat) (c:Int) (hd:d % 2 = 1) (hp:9007199254740992≤n * 2 ^ p / d) (hq:9007199254740992≤n * 2 ^ q / d) :
  rflag (oM (stk (n * 2 ^ p) d:Nat)).natAbs (oE (stk (n * 2 ^ p) d:Nat) (c - p)) = rflag (oM (stk (n * 2 ^ q) d:Nat)).natAbs (oE (stk (n * 2 ^ q) d:Nat) (c - q)):=by
 have h1:=stk_flag (n * 2 ^ p) d q (c - p) hd hp
 have h2:=stk_flag (n * 2 ^ q) d p (c - q) hd hq
 rw [Nat.mul_assoc,← Nat.pow_add] at h1 h2
 rw [Nat.add_comm q p,show c - (q:Int) - p = c - p - q by omega] at h2
 rw [← h1,← h2]
theorem stk_both (N d c:Nat):stk (N * 2 ^ c) (d * 2 ^ c) = stk N d:=by
 have hp:0 < 2 ^ c:=Nat.two_pow_pos _
 unfold stk
 rw [Nat.mul_div_mul_right _ _ hp,Nat.mul_mod_mul_right]
 have:N % d * 2 ^ c = 0 ↔ N % d = 0:=by
  constructor
  ·intro h;rcases Nat.mul_eq_zero.1 h with h | h <;> omega
  ·intro h;rw [h,Nat.zero_mul]
 simp only [this]
end Go.Proofs.YtcbcmlaogehimaaGreatDoor
namespace Go.Proofs.YtcbcmlaogehimaaGreatDoor
open Go.RowKit
theorem rv_eq0 (r:Nat):rv r = 0 ↔ r = 0:=by
 constructor
 ·intro h
  rcases Nat.eq_zero_or_pos r with e | e
  ·exact e
  ·have:=rv_lt e;rw [rv_zero] at this;omega
 ·intro h;rw [h,rv_zero]
theorem fK_zero (b:Nat):fK b = 0 ↔ fR b = 0:=by
 have h:=fR_lt b
 have hF:fF b = fR b % 4503599627370496:=by unfold fF fR;omega
 have hP:fP b = fR b / 4503599627370496:=rfl
 unfold fK
 rw [hF,hP]
 generalize fR b = r at *
 split
 ·split <;> constructor <;> intro _ <;> omega
 ·split
  ·split <;> constructor <;> intro _ <;> omega
  ·constructor <;> intro _ <;> omega
def mV (a b:Nat):Nat :=
 if fK a = 4 ∨ fK b = 4 then 9221120237041090560
 else if fK a = 3 ∨ fK b = 3 then (if fK a = 0 ∨ fK b = 0 then 9221120237041090560 else wrd (fS a ^^ fS b) 9218868437227405312)
 else wrd (fS a ^^ fS b) (rnd (rv (fR a) * rv (fR b)) (-2148))
def mF (a b:Nat):Int :=
 if fK a = 4 ∨ fK b = 4 then 0
 else if fK a = 3 ∨ fK b = 3 then (if fK a = 0 ∨ fK b = 0 then 16 else 0)
 else if fK a = 0 ∨ fK b = 0 then 0
 else rflag (oM (fZ a * fZ b)).natAbs (oE (fZ a * fZ b) (-2148))
theorem mV_lt (a b:Nat):mV a b < 18446744073709551616:=by
 have h:=rnd_le (rv (fR a) * rv (fR b)) (-2148)
 unfold mV
 split
 ·omega
 ·split
  ·split
   ·omega
   ·exact wrd_lt _ _ (by omega)
  ·exact wrd_lt _ _ (by omega)
theorem odd_mag (b:Nat) (hb:b < 18446744073709551616) (hf:fFin b = true) (h0:fK b ≠ 0) :
  ∃ β:Nat,fX b = -1074+(β:Int)∧rv (fR b) = (fD b).natAbs * 2 ^ β∧(fD b).natAbs % 2 = 1∧(fD b).natAbs < 9007199254740992:=by
 obtain ⟨d1,d2⟩:=fZ_level b hb hf
 have hr:fR b ≠ 0:=fun e=>h0 ((fK_zero b).2 e)
 have hz:fZ b ≠ 0:=fun e=>hr ((rv_eq0 _).1 (by rw [← fZ_abs,e];rfl))
 have h1:=oM_abs (fZ b) hz
 have h2:=oE_ne (fZ b) (-1074) hz
 refine ⟨tz (fZ b).natAbs,by rw [← d2,h2],by rw [← fZ_abs,h1,d1];congr 2;rw [← d1,← h1],?_,?_⟩
 ·have:=(oM_ne (fZ b) hz).2
  rw [d1] at this
  omega
 ·have:(oM (fM b)).natAbs≤(fM b).natAbs:=oM_le _
  have h3:=fM_lt b
  show (oM (fM b)).natAbs < _
  omega
def qS (a b:Nat):Nat:=stk ((fD a).natAbs * 2 ^ 180) (fD b).natAbs
def qV (a b:Nat):Nat:=rnd (qS a b) (fX a - fX b - 181)
def qF (a b:Nat):Int:=rflag (oM (qS a b:Nat)).natAbs (oE (qS a b:Nat) (fX a - fX b - 181))
def dV (a b:Nat):Nat :=
 if fK a = 4 ∨ fK b = 4 then 9221120237041090560
 else if fK a = fK b∧(fK a = 3 ∨ fK a = 0) then 9221120237041090560
 else if fK a = 3 then wrd (fS a ^^ fS b) 9218868437227405312
 else if fK b = 3 ∨ fK a = 0 then wrd (fS a ^^ fS b) 0
 else if fK b = 0 then wrd (fS a ^^ fS b) 9218868437227405312
 else wrd (fS a ^^ fS b) (qV a b)
def dF (a b:Nat):Int :=
 if fK a = 4 ∨ fK b = 4 then 0
 else if fK a = fK b∧(fK a = 3 ∨ fK a = 0) then 16
 else if fK a = 3 then 0
 else if fK b = 3 ∨ fK a = 0 then 0
 else if fK b = 0 then 8
 else qF a b
theorem dV_lt (a b:Nat):dV a b < 18446744073709551616:=by
 have h:qV a b≤9218868437227405312:=rnd_le _ _
 have i1:=wrd_lt (fS a ^^ fS b) 9218868437227405312 (by decide)
 have i2:=wrd_lt (fS a ^^ fS b) 0 (by decide)
 have i3:=wrd_lt (fS a ^^ fS b) (qV a b) (by omega)
 unfold dV
 repeat' split
 all_goals omega
theorem quo_big (o d:Nat) (ho:1≤o) (hd:d < 9007199254740992) (hd0:0 < d):9007199254740992≤o * 2 ^ 180 / d:=by
 rw [Nat.le_div_iff_mul_le hd0]
 have h1:9007199254740992 * d≤9007199254740992 * 9007199254740992:=Nat.mul_le_mul_left _ (by omega)
 have h2:9007199254740992 * 9007199254740992≤1 * 2 ^ 180:=by decide +kernel
 have h3:1 * 2 ^ 180≤o * 2 ^ 180:=Nat.mul_le_mul_right _ ho
 exact Nat.le_trans h1 (Nat.le_trans h2 h3)
end Go.Proofs.YtcbcmlaogehimaaGreatDoor
namespace Go.Proofs.YtcbcmlaogehimaaGreatDoor
open Go.RowKit
theorem kind_pos (a:Nat) (fa:fFin a = true) (a0:fK a ≠ 0):fK a ≠ 3∧fK a ≠ 4∧fK a ≠ 0:=⟨(fin_kind fa).1,(fin_kind fa).2,a0⟩
theorem dV_fin (a b:Nat) (fa:fFin a = true) (fb:fFin b = true) (a0:fK a ≠ 0) (b0:fK b ≠ 0):dV a b = wrd (fS a ^^ fS b) (qV a b)∧dF a b = qF a b:=by
 obtain ⟨a3,a4,_⟩:=kind_pos a fa a0
 obtain ⟨b3,b4,_⟩:=kind_pos b fb b0
 have h1:¬ (fK a = 4 ∨ fK b = 4):=by omega
 have h2:¬ (fK a = fK b∧(fK a = 3 ∨ fK a = 0)):=by omega
 have h3:¬ (fK b = 3 ∨ fK a = 0):=by omega
 unfold dV dF
 simp only [if_neg h1,if_neg h2,if_neg a3,if_neg h3,if_neg b0,and_self]
theorem mV_fin (a b:Nat) (fa:fFin a = true) (fb:fFin b = true) (a0:fK a ≠ 0) (b0:fK b ≠ 0):mV a b = wrd (fS a ^^ fS b) (rnd (rv (fR a) * rv (fR b)) (-2148))∧mF a b = rflag (oM (fZ a * fZ b)).natAbs (oE (fZ a * fZ b) (-2148)):=by
 obtain ⟨a3,a4,_⟩:=kind_pos a fa a0
 obtain ⟨b3,b4,_⟩:=kind_pos b fb b0
 have h1:¬ (fK a = 4 ∨ fK b = 4):=by omega
 have h2:¬ (fK a = 3 ∨ fK b = 3):=by omega
 have h3:¬ (fK a = 0 ∨ fK b = 0):=by omega
 unfold mV mF
 simp only [if_neg h1,if_neg h2,if_neg h3,and_self]
end Go.Proofs.YtcbcmlaogehimaaGreatDoor
namespace Go.Proofs.YtcbcmlaogehimaaGreatDoor
open Go.RowKit
theorem rnd_high {v:Nat} {E:Int} (hv:v ≠ 0) (h:1024 < (bl v:Int)+E):rnd v E = 9218868437227405312∧rflag v E = 5:=by
 unfold rflag rnd
 rw [if_neg hv,if_pos h,if_neg hv,if_pos h]
 exact ⟨rfl,rfl⟩
theorem cutE_small {v k:Nat} (h:2 * v < 2 ^ k):cutE v k = 0:=by
 unfold cutE
 have h1:v / 2 ^ k = 0:=Nat.div_eq_of_lt (by omega)
 have h2:v % 2 ^ k = v:=Nat.mod_eq_of_lt (by omega)
 rw [h1,h2,if_neg (by omega)]
theorem rnd_low {v:Nat} {E:Int} (hv:v ≠ 0) (h:(bl v:Int)+E < -1074):rnd v E = 0∧rflag v E = 3:=by
 obtain ⟨b1,b2,b3⟩:=bl_spec v hv
 have hl:lastE v E = -1074:=by unfold lastE;omega
 obtain ⟨j,hj⟩:∃ j:Nat,E - -1074 = -((j:Nat):Int):=⟨(-1074 - E).toNat,by omega⟩
 have hM:rndM v E = 0:=by
  unfold rndM
  rw [hl,hj,mS_down _ _ (by omega)]
  refine cutE_small ?_
  have h1:2 ^ (bl v+1)≤2 ^ j:=Nat.pow_le_pow_right (by decide) (by omega)
  rw [Nat.pow_succ] at h1
  omega
 have hr:rnd v E = 0:=by
  rw [rnd_fin v E hv (by omega),hM,hl]
  rfl
 refine ⟨hr,?_⟩
 unfold rflag
 rw [if_neg hv,if_neg (by omega),if_neg (by rw [hl];omega),hr,if_neg (by decide),if_pos (by decide)]
end Go.Proofs.YtcbcmlaogehimaaGreatDoor
namespace Go.Proofs.YtcbcmlaogehimaaGreatDoor
open Go.RowKit
theorem lng_step (X y:Nat) (hy:0 < y):X * 2 / (2 * y) = 2 * (X / (2 * y))+(if y≤X % (2 * y) then 1 else 0)∧X * 2 % (2 * y) = 2 * (X % (2 * y) - (if y≤X % (2 * y) then y else 0)):=by
 have h1:=Nat.div_add_mod X (2 * y)
 have h2:=Nat.mod_lt X (show 0 < 2 * y by omega)
 generalize X / (2 * y) = q at *
 generalize X % (2 * y) = r at *
 have e0:X * 2 = 2 * y * (2 * q)+2 * r:=by rw [← h1,Nat.add_mul,Nat.mul_assoc,Nat.mul_comm q 2,Nat.mul_comm r 2]
 by_cases c:y≤r
 ·rw [if_pos c,if_pos c]
  have e:X * 2 = 2 * y * (2 * q+1)+2 * (r - y):=by rw [Nat.mul_add,Nat.mul_one];omega
  rw [e]
  refine ⟨?_,?_⟩
  ·rw [Nat.mul_add_div (by omega),Nat.div_eq_of_lt (by omega),Nat.add_zero]
  ·rw [Nat.mul_add_mod,Nat.mod_eq_of_lt (by omega)]
 ·rw [if_neg c,if_neg c]
  rw [e0]
  refine ⟨?_,?_⟩
  ·rw [Nat.mul_add_div (by omega),Nat.div_eq_of_lt (by omega),Nat.add_zero]
  ·rw [Nat.mul_add_mod,Nat.mod_eq_of_lt (by omega)];omega
def lQ (x y i:Nat):Nat:=x * 2 ^ i / (2 * y)
def lR (x y i:Nat):Nat:=x * 2 ^ i % (2 * y)
theorem l_zero (x y:Nat) (h:x < 2 * y):lQ x y 0 = 0∧lR x y 0 = x:=by
 unfold lQ lR
 rw [Nat.pow_zero,Nat.mul_one]
 exact ⟨Nat.div_eq_of_lt h,Nat.mod_eq_of_lt h⟩
theorem l_succ (x y i:Nat) (hy:0 < y):lQ x y (i+1) = 2 * lQ x y i+(if y≤lR x y i then 1 else 0)∧lR x y (i+1) = 2 * (lR x y i - (if y≤lR x y i then y else 0)):=by
 have:=lng_step (x * 2 ^ i) y hy
 unfold lQ lR
 rw [Nat.pow_succ,← Nat.mul_assoc]
 exact this
theorem lR_lt (x y i:Nat) (hy:0 < y):lR x y i < 2 * y:=Nat.mod_lt _ (by omega)
theorem lQ_lt (x y i:Nat) (h:x < 2 * y):lQ x y i < 2 ^ i:=by
 unfold lQ
 rw [Nat.div_lt_iff_lt_mul (by omega),Nat.mul_comm (2 ^ i)]
 exact (Nat.mul_lt_mul_right (Nat.two_pow_pos i)).2 h
theorem l_end (x y:Nat):stk (x * 2 ^ 54) y = 2 * lQ x y 55+(if 0 < lR x y 55 then 1 else 0):=by
 have e:x * 2 ^ 55 = 2 * (x * 2 ^ 54):=by rw [show (2:Nat) ^ 55 = 2 * 2 ^ 54 by decide];ac_rfl
 unfold stk lQ lR
 rw [e,Nat.mul_div_mul_left _ _ (by decide),Nat.mul_mod_mul_left]
 congr 1
 by_cases c:x * 2 ^ 54 % y = 0
 ·rw [if_pos c,c,if_neg (by omega)]
 ·rw [if_neg c,if_pos (by omega)]
def dS (b:Nat):Nat:=(fD b).natAbs * 2 ^ (53 - bl (fD b).natAbs)
def dT (b:Nat):Int:=(bl (fD b).natAbs:Int)+fX b
theorem dS_facts (b:Nat) (hb:b < 18446744073709551616) (hf:fFin b = true) (h0:fK b ≠ 0) :
  bl (fD b).natAbs≤53∧1≤bl (fD b).natAbs∧4503599627370496≤dS b∧dS b < 9007199254740992∧-1074≤fX b∧fX b≤1024∧(fD b).natAbs % 2 = 1∧(fD b).natAbs < 9007199254740992:=by
 obtain ⟨β,x1,x2,x3,x4⟩:=odd_mag b hb hf h0
 have hne:(fD b).natAbs ≠ 0:=by omega
 obtain ⟨b1,b2,b3⟩:=bl_spec _ hne
 have hbl:bl (fD b).natAbs≤53:=by
  have:(2:Nat) ^ (bl (fD b).natAbs - 1) < 2 ^ 53:=by rw [p53];omega
  have:=pow_lt_of this
  omega
 have hs:=bl_scale (fD b).natAbs (53 - bl (fD b).natAbs) hne
 have hs':bl (dS b) = 53:=by unfold dS;rw [hs];omega
 have hd0:dS b ≠ 0:=by
  unfold dS
  exact Nat.mul_ne_zero hne (Nat.pos_iff_ne_zero.1 (Nat.two_pow_pos _))
 obtain ⟨c1,c2,c3⟩:=bl_spec _ hd0
 rw [hs'] at c2 c3
 have hz:=fZ_lt b hf
 rw [fZ_abs,x2] at hz
 have hβ:β < 2098:=by
  have h1:2 ^ β≤(fD b).natAbs * 2 ^ β:=Nat.le_mul_of_pos_left _ (by omega)
  exact pow_lt_of (Nat.lt_of_le_of_lt h1 hz)
 refine ⟨hbl,b1,?_,?_,by omega,by omega,x3,x4⟩
 ·exact c2
 ·rw [p53] at c3;exact c3
def pS (a b:Nat):Nat:=stk (dS a * 2 ^ 54) (dS b)
theorem quo_prog (a b:Nat) (ha:a < 18446744073709551616) (hb:b < 18446744073709551616) (fa:fFin a = true) (fb:fFin b = true) (a0:fK a ≠ 0) (b0:fK b ≠ 0) :
  rnd (pS a b) (dT a - dT b - 55) = qV a b∧rflag (oM (pS a b:Nat)).natAbs (oE (pS a b:Nat) (dT a - dT b - 55)) = qF a b:=by
 obtain ⟨x1,x2,x3,x4,x5,x6,x7,x8⟩:=dS_facts a ha fa a0
 obtain ⟨y1,y2,y3,y4,y5,y6,y7,y8⟩:=dS_facts b hb fb b0
 have hbig:=quo_big (fD a).natAbs (fD b).natAbs (by omega) y8 (by omega)
 obtain ⟨u1,u2,u3⟩:=bl_spec (fD a).natAbs (by omega)
 obtain ⟨v1,v2,v3⟩:=bl_spec (fD b).natAbs (by omega)
 unfold pS qV qF qS dS dT
 generalize (fD a).natAbs = oa at *
 generalize (fD b).natAbs = ob at *
 have e1:oa * 2 ^ (53 - bl oa) * 2 ^ 54 = oa * 2 ^ (54 - bl oa+bl ob) * 2 ^ (53 - bl ob):=by
  rw [Nat.mul_assoc,← Nat.pow_add,Nat.mul_assoc,← Nat.pow_add]
  congr 2
  omega
 have hb54:54 - bl oa+bl ob = 54+bl ob - bl oa:=by omega
 rw [e1,stk_both]
 have hq:9007199254740992≤oa * 2 ^ (54 - bl oa+bl ob) / ob:=by
  rw [Nat.le_div_iff_mul_le (by omega)]
  have h1:9007199254740992 * ob≤2 ^ 53 * 2 ^ bl ob:=by rw [p53];exact Nat.mul_le_mul_left _ (by omega)
  have h2:(2:Nat) ^ 53 * 2 ^ bl ob≤2 ^ (bl oa - 1) * 2 ^ (54 - bl oa+bl ob):=by
   rw [← Nat.pow_add,← Nat.pow_add];exact pow_le2 (by omega)
  have h3:2 ^ (bl oa - 1) * 2 ^ (54 - bl oa+bl ob)≤oa * 2 ^ (54 - bl oa+bl ob):=Nat.mul_le_mul_right _ u2
  omega
 have E1:(bl oa:Int)+fX a - ((bl ob:Int)+fX b) - 55 = (fX a - fX b - 1) - (54 - bl oa+bl ob:Nat):=by omega
 have E2:fX a - fX b - 181 = (fX a - fX b - 1) - (180:Nat):=by omega
 rw [E1,E2]
 exact ⟨stk_any oa ob _ 180 _ (by omega) hq hbig,stk_any_flag oa ob _ 180 _ y7 hq hbig⟩
theorem pS_facts (a b:Nat) (ha:a < 18446744073709551616) (hb:b < 18446744073709551616) (fa:fFin a = true) (fb:fFin b = true) (a0:fK a ≠ 0) (b0:fK b ≠ 0):pS a b ≠ 0∧pS a b < 144115188075855872∧dS a < 2 * dS b:=by
 obtain ⟨x1,x2,x3,x4,x5,x6,x7,x8⟩:=dS_facts a ha fa a0
 obtain ⟨y1,y2,y3,y4,y5,y6,y7,y8⟩:=dS_facts b hb fb b0
 have h:=l_end (dS a) (dS b)
 have h1:=lQ_lt (dS a) (dS b) 55 (by omega)
 have h2:(2:Nat) ^ 55 = 36028797018963968:=by decide
 have ht:(if 0 < lR (dS a) (dS b) 55 then 1 else 0)≤1:=by split <;> omega
 refine ⟨?_,?_,by omega⟩
 ·have:1≤dS a * 2 ^ 54 / dS b:=by
   rw [Nat.le_div_iff_mul_le (by omega),Nat.one_mul]
   have:dS a * 1≤dS a * 2 ^ 54:=Nat.mul_le_mul_left _ (by decide)
   have h5:dS a * 2≤dS a * 2 ^ 54:=Nat.mul_le_mul_left _ (by decide)
   omega
  unfold pS stk
  omega
 ·show stk (dS a * 2 ^ 54) (dS b) < _
  rw [h];omega
end Go.Proofs.YtcbcmlaogehimaaGreatDoor
namespace Go.Proofs.YtcbcmlaogehimaaGreatDoor
open Go.RowKit
theorem fZ_neg8 (b:Nat) (h0:fK b ≠ 0):fZ b ≠ 0∧decide (fZ b < 0) = fS b:=by
 have hr:fR b ≠ 0:=fun e=>h0 ((fK_zero b).2 e)
 have hp:0 < rv (fR b):=rv_pos (by omega)
 unfold fZ pv
 cases fS b
 ·simp only [Bool.false_eq_true,if_false]
  exact ⟨by omega,decide_eq_false (by omega)⟩
 ·simp only [if_true]
  exact ⟨by omega,decide_eq_true (by omega)⟩
theorem sc_facts (a:Nat) (ha:a < 18446744073709551616) (fa:fFin a = true) (a0:fK a ≠ 0) :
  fD a % 2 = 1∧(fD a).natAbs < 9007199254740992∧(fD a).natAbs ≠ 0∧decide (fD a < 0) = fS a∧-1074≤fX a∧fX a≤1024∧1≤bl (fD a).natAbs∧(bl (fD a).natAbs:Int)+fX a≤1024∧rnd (rv (fR a)) (-1074) = rnd (fD a).natAbs (fX a):=by
 obtain ⟨β,x1,x2,x3,x4⟩:=odd_mag a ha fa a0
 obtain ⟨y1,y2,y3,y4,y5,y6,y7,y8⟩:=dS_facts a ha fa a0
 obtain ⟨d1,d2⟩:=fZ_level a ha fa
 obtain ⟨n1,n2⟩:=fZ_neg8 a a0
 have hne:(fD a).natAbs ≠ 0:=by omega
 have hb:bl (rv (fR a)) = bl (fD a).natAbs+β:=by rw [x2];exact bl_scale _ _ hne
 have hlt:=fZ_lt a fa
 rw [fZ_abs] at hlt
 have hne2:rv (fR a) ≠ 0:=by rw [← fZ_abs];omega
 have hb2:bl (rv (fR a))≤2098:=by
  obtain ⟨b1,b2,b3⟩:=bl_spec _ hne2
  have:=pow_lt_of (Nat.lt_of_le_of_lt b2 hlt)
  omega
 refine ⟨by omega,x4,hne,?_,y5,y6,y2,by omega,?_⟩
 ·rw [← d1,oM_sign];exact n2
 ·rw [x2,x1,rnd_scale]
theorem scale_clampC (C:Int) (hC:2098 < C) (v:Nat) (E n:Int) (hv:v ≠ 0) (h1:(bl v:Int)+E≤1024) (h2:-1074≤(bl v:Int)+E) :
  rnd v (E+n) = rnd v (E+max (-C) (min C n))∧rflag v (E+n) = rflag v (E+max (-C) (min C n)):=by
 rcases Int.lt_or_le C n with h | h
 ·have a:=rnd_high hv (E:=E+n) (by omega)
  have b:=rnd_high hv (E:=E+max (-C) (min C n)) (by omega)
  rw [a.1,a.2,b.1,b.2]
  exact ⟨rfl,rfl⟩
 ·rcases Int.lt_or_le n (-C) with g | g
  ·have a:=rnd_low hv (E:=E+n) (by omega)
   have b:=rnd_low hv (E:=E+max (-C) (min C n)) (by omega)
   rw [a.1,a.2,b.1,b.2]
   exact ⟨rfl,rfl⟩
  ·rw [show max (-C) (min C n) = n by omega]
   exact ⟨rfl,rfl⟩
def xV (a:Nat) (n:Int):Nat:=if fK a = 4 then 9221120237041090560 else if fK a = 3 ∨ fK a = 0 then a else wrd (fS a) (rnd (fD a).natAbs (fX a+n))
def xF (a:Nat) (n:Int):Int:=if fK a = 4 then 0 else if fK a = 3 ∨ fK a = 0 then 0 else rflag (fD a).natAbs (fX a+n)
theorem xV_lt (a:Nat) (n:Int) (ha:a < 18446744073709551616):xV a n < 18446744073709551616:=by
 unfold xV
 have:=rnd_le (fD a).natAbs (fX a+n)
 repeat' split
 ·decide
 ·exact ha
 ·exact wrd_lt _ _ (by omega)
theorem xV_clamp (C:Int) (hC:2098 < C) (a:Nat) (n:Int) (ha:a < 18446744073709551616):xV a (max (-C) (min C n)) = xV a n∧xF a (max (-C) (min C n)) = xF a n:=by
 unfold xV xF
 by_cases a4:fK a = 4
 ·rw [if_pos a4,if_pos a4,if_pos a4,if_pos a4];exact ⟨rfl,rfl⟩
 by_cases a3:fK a = 3 ∨ fK a = 0
 ·rw [if_neg a4,if_neg a4,if_neg a4,if_neg a4,if_pos a3,if_pos a3,if_pos a3,if_pos a3];exact ⟨rfl,rfl⟩
 ·rw [if_neg a4,if_neg a4,if_neg a4,if_neg a4,if_neg a3,if_neg a3,if_neg a3,if_neg a3]
  obtain ⟨z1,z2,z3,z4,z5,z6,z7,z8,z9⟩:=sc_facts a ha (fin_of a (by omega) a4) (by omega)
  have:=scale_clampC C hC _ _ n z3 z8 (by omega)
  rw [this.1,this.2]
  exact ⟨rfl,rfl⟩
theorem odd_dRt {D E:Int} (h:D % 2 = 1) (hE:-16384≤E∧E≤16384):dRt D E = true:=by
 unfold dRt
 rw [if_neg (by omega),decide_eq_true h,decide_eq_true hE];rfl
theorem odd8_oM {D:Int} (h:D % 2 = 1):oM D = D∧∀ e,oE D e = e:=by
 have h0:D ≠ 0:=by omega
 have h1:=oM_ne D h0
 have:=(oddOf D h0).unique (m':=D) (k':=0) ⟨by simp,h⟩
 refine ⟨this.1,fun e=>?_⟩
 rw [oE_ne _ _ h0,this.2];simp
theorem odd_tz {D:Int} (h:D % 2 = 1):tz D.natAbs = 0:=by
 have h0:D ≠ 0:=by omega
 exact ((oddOf D h0).unique (m':=D) (k':=0) ⟨by simp,h⟩).2
theorem dscaleN {w:World} {v:Value} {D X:Int} (n:Int) (hv:IsDy w v D X) (h1:D % 2 = 1) (h2:D.natAbs < 9007199254740992) (h3:-1074≤X∧X≤1024) (h4:-5000≤n∧n≤5000) (hT:Tab w) :
  Calls Tryz.prog 228 #[v,.int .i64 n] w fun r w'=>DyR w' r 0 D (X+n)∧Below w.heap.size w w':=by
 obtain ⟨na,ao,ca,A,rfl,a1,a2,a3,a4,a5⟩:=hv.right (small_TOP _ (by omega))
 have:=dscale_right na ao ca A X n w a1 (a5.trans (odd_dRt h1 (by omega))) (by omega) hT
 have hok:dOk D (X+n) = true:=by
  unfold dOk
  rw [odd_tz h1,decide_eq_true (show -32768≤X+n∧X+n≤32768 by omega),decide_eq_true (show -16384≤X+n+((0:Nat):Int)∧X+n+((0:Nat):Int)≤16384 by omega),Bool.or_true]
  rfl
 rw [a3] at this
 unfold dErr dM dX at this
 rw [hok,if_pos rfl,if_pos rfl,if_pos rfl,(odd8_oM h1).1,(odd8_oM h1).2] at this
 exact this
theorem scaleFinite_of (a o:Nat) (n D X Y fl:Int) (w:World) (hT:Tab w)
  (C1:∀ w',Tab w'→Calls Tryz.prog 168 #[.int .u64 a] w' fun r w''=>DyR w'' r 0 D X∧Below w'.heap.size w' w'')
  (C2:∀ w' v,Tab w'→IsDy w' v D X→Calls Tryz.prog 228 #[v,.int .i64 n] w' fun r w''=>DyR w'' r 0 D Y∧Below w'.heap.size w' w'')
  (C3:∀ w' v,Tab w'→IsDy w' v D Y→Calls Tryz.prog 229 #[v] w' fun r w''=>r = .returned (.tuple #[.int .u64 (o:Nat),.int .u8 fl,.int .i64 0])∧Below w'.heap.size w' w'') :
  Calls Tryz.prog 197 #[.int .u64 a,.int .i64 n] w fun r w'=>r = .returned (.tuple #[.int .u64 (o:Nat),.int .u8 fl])∧Below w.heap.size w w':=by
 have K1:=hide C1;have K2:=hide C2;have K3:=hide C3;have HT:=hide hT
 clear C1 C2 C3 hT
 go_enter Tryz.func197,Tryz.ntmps197
 go_wp2_with fail
 refine (uH K1 _ (uH HT)).mono ?_
 rintro e w1 ⟨⟨v,rfl,hv⟩,hb1⟩
 obtain ⟨n1,a1,c1,L1,rfl,i1⟩:=hv
 have hb1a:Below w1.heap.size w1 (w1.alloc (.cells #[.bool n1,.slice a1 L1.length c1,.int .i64 X] 35)):=(Below.refl _ _).alloc (Nat.le_refl _) _
 have HX:=hide ((show IsDy w1 (.agg #[.bool n1,.slice a1 L1.length c1,.int .i64 X]) D X from ⟨n1,a1,c1,L1,rfl,i1⟩).below hb1a)
 have B1:=hide (hb1.trans (hb1a.mono hb1.size))
 have x3:=Box3.new w1 (.bool n1) (.slice a1 L1.length c1) (.int .i64 X)
 have y0:=x3.c0;have y1:=x3.c1;have y2:=x3.c2
 clear i1 hb1 hb1a K1 x3
 generalize L1.length = l1 at *
 go_wp2_with fail
 refine (uH K2 _ _ ((uH HT).all (uH B1)) (uH HX)).mono ?_
 rintro e w2 ⟨⟨v,rfl,hv⟩,hb1⟩
 obtain ⟨n2,a2,c2,L2,rfl,i2⟩:=hv
 have hb1a:Below w2.heap.size w2 (w2.alloc (.cells #[.bool n2,.slice a2 L2.length c2,.int .i64 Y] 35)):=(Below.refl _ _).alloc (Nat.le_refl _) _
 have HY:=hide ((show IsDy w2 (.agg #[.bool n2,.slice a2 L2.length c2,.int .i64 Y]) D Y from ⟨n2,a2,c2,L2,rfl,i2⟩).below hb1a)
 have B2:=hide ((uH B1).trans ((hb1.trans (hb1a.mono hb1.size)).mono (uH B1).size))
 have x3:=Box3.new w2 (.bool n2) (.slice a2 L2.length c2) (.int .i64 Y)
 have z0:=x3.c0;have z1:=x3.c1;have z2:=x3.c2
 clear i2 hb1 hb1a K2 x3 y0 y1 y2 HX B1
 generalize L2.length = l2 at *
 go_wp2_with fail
 refine (uH K3 _ _ ((uH HT).all (uH B2)) (uH HY)).mono ?_
 rintro e w3 ⟨rfl,hb1⟩
 have B3:=hide ((uH B2).trans (hb1.mono (uH B2).size))
 clear hb1 K3 B2 z0 z1 z2 HY
 go_wp2
 exact bodyPost_ret (v:=.tuple #[.int .u64 o,.int .u8 fl]) (by simp [results,Tryz.results197,go_sem]) rfl ⟨rfl,uH B3⟩
theorem scaleFinite_any (a:Nat) (n:Int) (w:World) (ha:a < 18446744073709551616) (fa:fFin a = true) (a0:fK a ≠ 0) (hn:-5000≤n∧n≤5000) (hT:Tab w) :
  Calls Tryz.prog 197 #[.int .u64 a,.int .i64 n] w fun r w'=>r = .returned (.tuple #[.int .u64 (wrd (fS a) (rnd (fD a).natAbs (fX a+n)):Nat),.int .u8 (rflag (fD a).natAbs (fX a+n))])∧Below w.heap.size w w':=by
 obtain ⟨z1,z2,z3,z4,z5,z6,z7,z8,z9⟩:=sc_facts a ha fa a0
 have C3:∀ w' v,Tab w'→IsDy w' v (fD a) (fX a+n)→_:=fun w' v t hv=>round_dy hv (small_TOP _ (by omega)) (odd_dRt z1 (by omega)) t
 rw [z4] at C3
 exact scaleFinite_of a _ n (fD a) (fX a) (fX a+n) _ w hT (fun w' t=>value_some a w' ha fa t) (fun w' v t hv=>dscaleN n hv z1 z2 (by omega) hn t) C3
theorem scale_n (a:Nat) (n:Int) (w:World)
  (C1:∀ w',Calls Tryz.prog 164 #[.int .u64 a] w' fun r w''=>r = .returned (.int .i64 4)∧Below w'.heap.size w' w'') :
  Calls Tryz.prog 155 #[.int .u64 a,.int .i64 n] w fun r w'=>r = .returned (.tuple #[.int .u64 9221120237041090560,.int .u8 0])∧Below w.heap.size w w':=by
 have K1:=hide C1
 clear C1
 go_enter Tryz.func155,Tryz.ntmps155
 go_wp2_with fail
 refine (uH K1 _).mono ?_
 rintro e w1 ⟨rfl,hb1⟩
 clear K1
 go_wp2
 exact bodyPost_ret (v:=.tuple #[.int .u64 9221120237041090560,.int .u8 0]) (by simp [results,Tryz.results155,go_sem]) rfl ⟨rfl,hb1⟩
theorem scale_iz (a:Nat) (n k:Int) (w:World) (hk:k = 3 ∨ k = 0)
  (C1:∀ w',Calls Tryz.prog 164 #[.int .u64 a] w' fun r w''=>r = .returned (.int .i64 k)∧Below w'.heap.size w' w'') :
  Calls Tryz.prog 155 #[.int .u64 a,.int .i64 n] w fun r w'=>r = .returned (.tuple #[.int .u64 (a:Nat),.int .u8 0])∧Below w.heap.size w w':=by
 have K1:=hide C1
 clear C1
 rcases hk with rfl | rfl
 ·go_enter Tryz.func155,Tryz.ntmps155
  go_wp2_with fail
  refine (uH K1 _).mono ?_
  rintro e w1 ⟨rfl,hb1⟩
  clear K1
  go_wp2
  exact bodyPost_ret (v:=.tuple #[.int .u64 (a:Nat),.int .u8 0]) (by simp [results,Tryz.results155,go_sem]) rfl ⟨rfl,hb1⟩
 ·go_enter Tryz.func155,Tryz.ntmps155
  go_wp2_with fail
  refine (uH K1 _).mono ?_
  rintro e w1 ⟨rfl,hb1⟩
  clear K1
  go_wp2
  exact bodyPost_ret (v:=.tuple #[.int .u64 (a:Nat),.int .u8 0]) (by simp [results,Tryz.results155,go_sem]) rfl ⟨rfl,hb1⟩
theorem min2_run (P:Program) (w:World) (ts:Array TypeId) (t:TypeId) (x y:Int):(Builtin.min_ ts t #[.int .i64 x,.int .i64 y]).run P w = .ok (.int .i64 (min x y)) w:=by
 rw [run_min_int2]
 congr 2
 split <;> omega
theorem scale_f (a o:Nat) (n k m c fl:Int) (w:World) (h4:(k == 4) = false) (h3:(k == 3) = false) (h0:(k == 0) = false) (hT:Tab w)
  (hM:∀ W ts t,(Builtin.max_ ts t #[.int .i64 n,.int .i64 (-4096)]).run Tryz.prog W = .ok (.int .i64 m) W)
  (hN:∀ W ts t,(Builtin.min_ ts t #[.int .i64 m,.int .i64 4096]).run Tryz.prog W = .ok (.int .i64 c) W)
  (C1:∀ w',Calls Tryz.prog 164 #[.int .u64 a] w' fun r w''=>r = .returned (.int .i64 k)∧Below w'.heap.size w' w'')
  (C2:∀ w',Tab w'→Calls Tryz.prog 197 #[.int .u64 a,.int .i64 c] w' fun r w''=>r = .returned (.tuple #[.int .u64 (o:Nat),.int .u8 fl])∧Below w'.heap.size w' w'') :
  Calls Tryz.prog 155 #[.int .u64 a,.int .i64 n] w fun r w'=>r = .returned (.tuple #[.int .u64 (o:Nat),.int .u8 fl])∧Below w.heap.size w w':=by
 have K1:=hide C1;have K2:=hide C2;have HT:=hide hT
 clear C1 C2 hT
 go_enter Tryz.func155,Tryz.ntmps155
 go_wp2_with fail
 refine (uH K1 _).mono ?_
 rintro e w1 ⟨rfl,hb1⟩
 have B1:=hide hb1
 clear K1 hb1
 go_wp2_with fail
 refine (uH K2 _ ((uH HT).all (uH B1))).mono ?_
 rintro e w2 ⟨rfl,hb1⟩
 have B2:=hide ((uH B1).trans (hb1.mono (uH B1).size))
 clear K2 hb1 B1 HT
 go_wp2
 exact bodyPost_ret (v:=.tuple #[.int .u64 (o:Nat),.int .u8 fl]) (by simp [results,Tryz.results155,go_sem]) rfl ⟨rfl,uH B2⟩
theorem cscale_any (a:Nat) (n:Int) (w:World) (ha:a < 18446744073709551616) (hT:Tab w) :
  Calls Tryz.prog 155 #[.int .u64 a,.int .i64 n] w fun r w'=>r = .returned (.tuple #[.int .u64 (xV a n:Nat),.int .u8 (xF a n)])∧Below w.heap.size w w':=by
 have C1:=fun w'=>kind_any a w' ha
 by_cases a4:fK a = 4
 ·unfold xV xF
  rw [if_pos a4,if_pos a4]
  rw [a4] at C1
  exact scale_n a n w C1
 by_cases a3:fK a = 3 ∨ fK a = 0
 ·unfold xV xF
  rw [if_neg a4,if_neg a4,if_pos a3,if_pos a3]
  exact scale_iz a n _ w a3 C1
 ·have fa:=fin_of a (by omega) a4
  have e:=xV_clamp 4096 (by decide) a n ha
  rw [show max (-4096) (min 4096 n) = min (max n (-4096)) 4096 by omega] at e
  rw [← e.1,← e.2]
  unfold xV xF
  rw [if_neg a4,if_neg a4,if_neg a3,if_neg a3]
  exact scale_f a _ n _ (max n (-4096)) (min (max n (-4096)) 4096) _ w (by simp [a4]) (by simp;omega) (by simp;omega) hT (fun W ts t=>max2_run _ W ts t _ _) (fun W ts t=>min2_run _ W ts t _ _) C1 (fun w' t=>scaleFinite_any a _ w' ha fa (by omega) (by omega) t)
end Go.Proofs.YtcbcmlaogehimaaGreatDoor
namespace Go.Proofs.YtcbcmlaogehimaaGreatDoor
open Go.RowKit
theorem exp_0 (a:Nat) (k:Int) (w:World) (hk:k = 4 ∨ k = 3 ∨ k = 0)
  (C1:∀ w',Calls Tryz.prog 164 #[.int .u64 a] w' fun r w''=>r = .returned (.int .i64 k)∧Below w'.heap.size w' w'') :
  Calls Tryz.prog 119 #[.int .u64 a] w fun r w'=>r = .returned (.int .i64 0)∧Below w.heap.size w w':=by
 have K1:=hide C1
 clear C1
 rcases hk with rfl | rfl | rfl
 all_goals
  go_enter Tryz.func119,Tryz.ntmps119
  go_wp2_with fail
  refine (uH K1 _).mono ?_
  rintro e w1 ⟨rfl,hb1⟩
  clear K1
  go_wp2
  go_ret
  exact ⟨rfl,hb1⟩
theorem exp_f (a:Nat) (k D X t:Int) (w:World) (h4:(k == 4) = false) (h3:(k == 3) = false) (h0:(k == 0) = false) (ht:-2000≤t∧t≤2000) (hT:Tab w)
  (C1:∀ w',Calls Tryz.prog 164 #[.int .u64 a] w' fun r w''=>r = .returned (.int .i64 k)∧Below w'.heap.size w' w'')
  (C2:∀ w',Tab w'→Calls Tryz.prog 168 #[.int .u64 a] w' fun r w''=>DyR w'' r 0 D X∧Below w'.heap.size w' w'')
  (C3:∀ w' v,IsDy w' v D X→Calls Tryz.prog 169 #[v] w' fun r w''=>r = .returned (.int .i64 t)∧Below w'.heap.size w' w'') :
  Calls Tryz.prog 119 #[.int .u64 a] w fun r w'=>r = .returned (.int .i64 (t - 1))∧Below w.heap.size w w':=by
 have K1:=hide C1;have K2:=hide C2;have K3:=hide C3;have HT:=hide hT
 clear C1 C2 C3 hT
 have hw:=wrap_small (t - 1) (by omega)
 go_enter Tryz.func119,Tryz.ntmps119
 go_wp2_with fail
 refine (uH K1 _).mono ?_
 rintro e w1 ⟨rfl,hb1⟩
 have B1:=hide hb1
 clear K1 hb1
 go_wp2_with fail
 refine (uH K2 _ ((uH HT).all (uH B1))).mono ?_
 rintro e w2 ⟨⟨v,rfl,hv⟩,hb1⟩
 obtain ⟨n2,a2,c2,L2,rfl,i2⟩:=hv
 have hb1a:Below w2.heap.size w2 (w2.alloc (.cells #[.bool n2,.slice a2 L2.length c2,.int .i64 X] 35)):=(Below.refl _ _).alloc (Nat.le_refl _) _
 have HY:=hide ((show IsDy w2 (.agg #[.bool n2,.slice a2 L2.length c2,.int .i64 X]) D X from ⟨n2,a2,c2,L2,rfl,i2⟩).below hb1a)
 have B2:=hide ((uH B1).trans ((hb1.trans (hb1a.mono hb1.size)).mono (uH B1).size))
 have x3:=Box3.new w2 (.bool n2) (.slice a2 L2.length c2) (.int .i64 X)
 have z0:=x3.c0;have z1:=x3.c1;have z2:=x3.c2
 clear i2 hb1 hb1a K2 x3 B1
 generalize L2.length = l2 at *
 go_wp2_with fail
 refine (uH K3 _ _ (uH HY)).mono ?_
 rintro e w3 ⟨rfl,hb1⟩
 have B3:=hide ((uH B2).trans (hb1.mono (uH B2).size))
 clear hb1 K3 B2 z0 z1 z2 HY
 go_wp2
 go_ret
 exact ⟨rfl,uH B3⟩
theorem bl_le53 {v:Nat} (h:v < 9007199254740992):bl v≤53:=by
 by_cases h0:v = 0
 ·subst h0;decide
 ·obtain ⟨b1,b2,b3⟩:=bl_spec v h0
  have:=pow_lt_of (Nat.lt_of_le_of_lt b2 (by rw [p53];exact h))
  omega
theorem dtopN {w:World} {v:Value} {D X:Int} (hv:IsDy w v D X) (h1:D % 2 = 1) (h2:D.natAbs < 9007199254740992) (h3:-1074≤X∧X≤1024) :
  Calls Tryz.prog 169 #[v] w fun r w'=>r = .returned (.int .i64 ((bl D.natAbs:Int)+X))∧Below w.heap.size w w':=by
 obtain ⟨na,ao,ca,A,rfl,a1,a2,a3,a4,a5⟩:=hv.right (small_TOP _ (by omega))
 have:=dtop_any na ao ca A X w a1 (by omega)
 have hd:drB na A X = true:=a5.trans (odd_dRt h1 (by omega))
 have hv:val A = D.natAbs:=by rw [← a3,natAbs_sval]
 have hl:=lenL_bl a1.2.1 a2
 have hb:bl D.natAbs≤53:=bl_le53 h2
 rw [hl,hv,wrap_small _ (by omega)] at this
 exact this
def eX (a:Nat):Int:=if fK a = 4 ∨ fK a = 3 ∨ fK a = 0 then 0 else (bl (fD a).natAbs:Int)+fX a - 1
theorem cexp_any (a:Nat) (w:World) (ha:a < 18446744073709551616) (hT:Tab w) :
  Calls Tryz.prog 119 #[.int .u64 a] w fun r w'=>r = .returned (.int .i64 (eX a))∧Below w.heap.size w w':=by
 have C1:=fun w'=>kind_any a w' ha
 unfold eX
 by_cases h:fK a = 4 ∨ fK a = 3 ∨ fK a = 0
 ·rw [if_pos h]
  exact exp_0 a _ w h C1
 ·rw [if_neg h]
  have fa:=fin_of a (by omega) (by omega)
  obtain ⟨z1,z2,z3,z4,z5,z6,z7,z8,z9⟩:=sc_facts a ha fa (by omega)
  exact exp_f a _ (fD a) (fX a) _ w (by simp;omega) (by simp;omega) (by simp;omega) (by omega) hT C1 (fun w' t=>value_some a w' ha fa t) (fun w' v hv=>dtopN hv z1 z2 (by omega))
end Go.Proofs.YtcbcmlaogehimaaGreatDoor
