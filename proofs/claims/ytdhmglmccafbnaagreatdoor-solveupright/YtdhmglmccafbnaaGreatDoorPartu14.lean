/- Part 14 of the texts. -/
import Derived.Test.YtdhmglmccafbnaaGreatDoorPartu13
namespace Go.Proofs.YtdhmglmccafbnaaGreatDoor
open Go.RowKit
def fR (b:Nat):Nat:=b % 9223372036854775808
def fZ (b:Nat):Int:=pv (fS b) (fR b)
theorem b_wrd (b:Nat) (h:b < 18446744073709551616):wrd (fS b) (fR b) = b:=by
 unfold fS fR
 by_cases c:9223372036854775808≤b
 ·rw [decide_eq_true c,wrd_true];omega
 ·rw [decide_eq_false c,wrd_false];omega
theorem fR_lt (b:Nat):fR b < 9223372036854775808:=by unfold fR;omega
theorem fR_fin (b:Nat) (hf:fFin b = true):fR b < 9218868437227405312:=by
 have h1:=of_decide_eq_true hf
 unfold fP at h1
 unfold fR
 omega
theorem sg_pv (n:Bool) (s:Nat):sg n (rv s) = pv n s:=rfl
theorem fZ_level (b:Nat) (h:b < 18446744073709551616) (hf:fFin b = true):oM (fZ b) = fD b∧oE (fZ b) (-1074) = fX b:=by
 obtain ⟨j,h1,h2⟩:=fM_wrd (fS b) (fR b) (fR_fin b hf)
 rw [b_wrd b h] at h1 h2
 have h3:=oM_scale (fM b) j (-1074)
 rw [h2,sg_pv,← h1] at h3
 exact h3
theorem rv_inf:rv 9218868437227405312 = 2 ^ 2098:=by decide +kernel
theorem pv_abs (n:Bool) (r:Nat):(pv n r).natAbs = rv r:=by unfold pv;split <;> omega
theorem fZ_abs (b:Nat):(fZ b).natAbs = rv (fR b):=pv_abs _ _
theorem fZ_lt (b:Nat) (hf:fFin b = true):(fZ b).natAbs < 2 ^ 2098:=by
 rw [fZ_abs,← rv_inf];exact rv_lt (fR_fin b hf)
def aZ (a b:Nat):Int:=fZ a+fZ b
def aV (a b:Nat):Nat :=
 if fK a = 4 ∨ fK b = 4 then 9221120237041090560
 else if fK a = 3 then (if fK b = 3∧a ≠ b then 9221120237041090560 else a)
 else if fK b = 3 then b
 else if aZ a b = 0 then (if (fS a && fS b) = true then 9223372036854775808 else 0)
 else wrd (decide (aZ a b < 0)) (rnd (aZ a b).natAbs (-1074))
def aF (a b:Nat):Int :=
 if fK a = 4 ∨ fK b = 4 then 0
 else if fK a = 3 then (if fK b = 3∧a ≠ b then 16 else 0)
 else if fK b = 3 then 0
 else if aZ a b = 0 then 0
 else rflag (oM (aZ a b)).natAbs (oE (aZ a b) (-1074))
theorem p2098:(2:Nat) ^ 2098+2 ^ 2098 = 2 ^ 2099:=by decide +kernel
theorem fZ_Lvl (b:Nat) (hf:fFin b = true):Lvl (-1074) 2099 (fZ b):=by
 have h1:=fZ_lt b hf
 have h2:=p2098
 have h3:=Nat.two_pow_pos 2098
 generalize (2:Nat) ^ 2098 = P at *
 exact ⟨by rw [← h2];omega,by decide,by decide,by decide⟩
theorem aZ_Lvl (a b:Nat) (ha:fFin a = true) (hb:fFin b = true):Lvl (-1074) 2099 (fZ a+fZ b):=by
 have h1:=fZ_lt a ha
 have h4:=fZ_lt b hb
 have h2:=p2098
 generalize (2:Nat) ^ 2098 = P at *
 exact ⟨by rw [← h2];omega,by decide,by decide,by decide⟩
theorem wrd_lt (n:Bool) (r:Nat) (h:r < 9223372036854775808):wrd n r < 18446744073709551616:=by unfold wrd;split <;> omega
theorem aV_lt (a b:Nat) (ha:a < 18446744073709551616) (hb:b < 18446744073709551616):aV a b < 18446744073709551616:=by
 unfold aV
 split
 ·omega
 ·split
  ·split <;> omega
  ·split
   ·omega
   ·split
    ·split <;> omega
    ·have:=rnd_le (aZ a b).natAbs (-1074)
     exact wrd_lt _ _ (by omega)
theorem add_f (a b:Nat) (a3:fK a ≠ 3) (a4:fK a ≠ 4) (b3:fK b ≠ 3) (b4:fK b ≠ 4) :
  aV a b = (if aZ a b = 0 then (if (fS a && fS b) = true then 9223372036854775808 else 0) else wrd (decide (aZ a b < 0)) (rnd (aZ a b).natAbs (-1074)))∧aF a b = (if aZ a b = 0 then 0 else rflag (oM (aZ a b)).natAbs (oE (aZ a b) (-1074))):=by
 have h:¬ (fK a = 4 ∨ fK b = 4):=by omega
 unfold aV aF
 simp only [if_neg h,if_neg a3,if_neg b3,and_self]
theorem rnd_0 (E:Int):rnd 0 E = 0:=by unfold rnd;exact if_pos rfl
end Go.Proofs.YtdhmglmccafbnaaGreatDoor
namespace Go.Proofs.YtdhmglmccafbnaaGreatDoor
open Go.RowKit
theorem fK_rungs (b:Nat):(fK b = 4 ↔ 9218868437227405312 < fR b)∧(fK b = 3 ↔ fR b = 9218868437227405312)∧(fFin b = true ↔ fR b < 9218868437227405312):=by
 have h:=fR_lt b
 have hF:fF b = fR b % 4503599627370496:=by unfold fF fR;omega
 have hP:fP b = fR b / 4503599627370496:=rfl
 unfold fK fFin
 rw [hF,hP]
 generalize fR b = r at *
 refine ⟨?_,?_,?_⟩
 ·split
  ·split <;> constructor <;> intro _ <;> omega
  ·split
   ·split <;> constructor <;> intro _ <;> omega
   ·constructor <;> intro _ <;> omega
 ·split
  ·split <;> constructor <;> intro _ <;> omega
  ·split
   ·split <;> constructor <;> intro _ <;> omega
   ·constructor <;> intro _ <;> omega
 ·rw [decide_eq_true_iff];omega
theorem fin_of (b:Nat) (h3:fK b ≠ 3) (h4:fK b ≠ 4):fFin b = true:=by
 rcases fK_cases b with ⟨_,h | h⟩ | ⟨h,_⟩
 ·exact absurd h h3
 ·exact absurd h h4
 ·exact h
theorem fN_wrd2 (b:Nat) (h:b < 18446744073709551616):fN b = wrd (!fS b) (fR b):=by
 unfold fN fS fR
 by_cases c:9223372036854775808≤b
 ·rw [if_pos c,decide_eq_true c];show _ = wrd false _;rw [wrd_false];omega
 ·rw [if_neg c,decide_eq_false c];show _ = wrd true _;rw [wrd_true];omega
theorem fS_fN (b:Nat) (h:b < 18446744073709551616):fS (fN b) = !fS b:=by rw [fN_wrd2 b h,fS_wrd _ _ (fR_lt b)]
theorem fR_fN (b:Nat) (h:b < 18446744073709551616):fR (fN b) = fR b:=by
 have:=fR_lt b
 rw [fN_wrd2 b h]
 unfold fR at *
 cases (!fS b)
 ·rw [wrd_false];omega
 ·rw [wrd_true];omega
end Go.Proofs.YtdhmglmccafbnaaGreatDoor
namespace Go.Proofs.YtdhmglmccafbnaaGreatDoor
open Go.RowKit
theorem fR_wrd (n:Bool) (r:Nat) (h:r < 9223372036854775808):fR (wrd n r) = r:=(wrd_parts n r h).2
theorem fZ_wrd (n:Bool) (r:Nat) (h:r < 9223372036854775808):fZ (wrd n r) = pv n r:=by
 unfold fZ;rw [fS_wrd n r h,fR_wrd n r h]
theorem fFin_fN (b:Nat) (h:b < 18446744073709551616):fFin (fN b) = fFin b:=by
 have e:=fR_fN b h
 unfold fFin
 rw [show fP (fN b) = fP b from by show fR (fN b) / 4503599627370496 = fR b / 4503599627370496;rw [e]]
theorem fZ_fN (b:Nat) (h:b < 18446744073709551616):fZ (fN b) = - fZ b:=by
 unfold fZ
 rw [fS_fN b h,fR_fN b h]
 unfold pv
 cases fS b <;> simp
theorem fin_kind {b:Nat} (hf:fFin b = true):fK b ≠ 3∧fK b ≠ 4:=by
 rcases fK_cases b with ⟨h,_⟩ | ⟨_,h⟩
 ·rw [hf] at h;cases h
 ·omega
theorem aV_fin (a b:Nat) (fa:fFin a = true) (fb:fFin b = true):fR (aV a b) = rnd (aZ a b).natAbs (-1074)∧fZ (aV a b) = pvZ (aZ a b) (-1074):=by
 obtain ⟨a3,a4⟩:=fin_kind fa
 obtain ⟨b3,b4⟩:=fin_kind fb
 rw [(add_f a b a3 a4 b3 b4).1]
 by_cases h0:aZ a b = 0
 ·rw [if_pos h0,h0]
  have e:(if (fS a && fS b) = true then 9223372036854775808 else 0) = wrd (fS a && fS b) 0:=by unfold wrd;split <;> rfl
  have r0:rnd (0:Int).natAbs (-1074) = 0:=rnd_0 _
  rw [e,fR_wrd _ _ (by decide),fZ_wrd _ _ (by decide),r0]
  refine ⟨rfl,?_⟩
  unfold pvZ pv
  rw [r0,rv_zero]
  split <;> simp
 ·rw [if_neg h0]
  have hle:=rnd_le (aZ a b).natAbs (-1074)
  rw [fR_wrd _ _ (by omega),fZ_wrd _ _ (by omega)]
  exact ⟨rfl,rfl⟩
end Go.Proofs.YtdhmglmccafbnaaGreatDoor
namespace Go.Proofs.YtdhmglmccafbnaaGreatDoor
def stk (N d:Nat):Nat:=2 * (N / d)+(if N % d = 0 then 0 else 1)
def cutQ (N D:Nat):Nat:=N / D+(if D < 2 * (N % D) ∨ (D = 2 * (N % D)∧N / D % 2 = 1) then 1 else 0)
theorem cutQ_scale (N D i:Nat):cutQ (N * 2 ^ i) (D * 2 ^ i) = cutQ N D:=by
 have hp:0 < 2 ^ i:=Nat.two_pow_pos _
 unfold cutQ
 rw [Nat.mul_div_mul_right _ _ hp,Nat.mul_mod_mul_right]
 have h1:(D * 2 ^ i < 2 * (N % D * 2 ^ i)) ↔ D < 2 * (N % D):=by
  rw [← Nat.mul_assoc];exact Nat.mul_lt_mul_right hp
 have h2:(D * 2 ^ i = 2 * (N % D * 2 ^ i)) ↔ D = 2 * (N % D):=by
  rw [← Nat.mul_assoc];exact ⟨fun h=>Nat.eq_of_mul_eq_mul_right hp h,fun h=>by rw [← h]⟩
 simp only [h1,h2]
theorem stk_cut (N d k:Nat) (hd:0 < d) (hk:1≤k):cutE (stk N d) (k+1) = cutQ N (d * 2 ^ k):=by
 obtain ⟨j,rfl⟩:∃ j,k = j+1:=⟨k - 1,by omega⟩
 have hN:=Nat.div_add_mod N d
 have hr:=Nat.mod_lt N hd
 have hg:0 < 2 ^ j:=Nat.two_pow_pos _
 have e1:(2:Nat) ^ (j+1) = 2 * 2 ^ j:=by rw [Nat.pow_succ,Nat.mul_comm]
 have e2:(2:Nat) ^ (j+1+1) = 2 * (2 * 2 ^ j):=by rw [Nat.pow_succ,e1,Nat.mul_comm]
 have ht:(if N % d = 0 then 0 else 1)≤1:=by split <;> omega
 have htz:(if N % d = 0 then 0 else 1) = 0 ↔ N % d = 0:=by split <;> simp_all
 unfold cutE cutQ stk
 rw [e2,e1]
 generalize (2:Nat) ^ j = g at *
 generalize (if N % d = 0 then 0 else 1) = t at *
 have hq:=Nat.div_add_mod (N / d) (2 * g)
 have ha:=Nat.mod_lt (N / d) (show 0 < 2 * g by omega)
 have dv:N / (d * (2 * g)) = N / d / (2 * g):=(Nat.div_div_eq_div_mul N d (2 * g)).symm
 have md:N % (d * (2 * g)) = d * (N / d % (2 * g))+N % d:=by
  rw [Nat.mod_mul];omega
 rw [dv,md]
 generalize N % d = r at *
 generalize N / d = q at *
 generalize hA:q % (2 * g) = a at *
 generalize hQ:q / (2 * g) = b at *
 have s1:(2 * q+t) / (2 * (2 * g)) = b:=by
  rw [← hq,Nat.mul_add,← Nat.mul_assoc 2 (2 * g) b,Nat.add_assoc]
  rw [Nat.mul_add_div (by omega),Nat.div_eq_of_lt (by omega),Nat.add_zero]
 have s2:(2 * q+t) % (2 * (2 * g)) = 2 * a+t:=by
  rw [← hq,Nat.mul_add,← Nat.mul_assoc 2 (2 * g) b,Nat.add_assoc,Nat.mul_add_mod,Nat.mod_eq_of_lt (by omega)]
 rw [s1,s2]
 congr 1
 -- where a stands beside half
 rcases Nat.lt_trichotomy a g with h | h | h
 ·have:d * a+d≤d * g:=by rw [← Nat.mul_succ];exact Nat.mul_le_mul_left d h
  have e3:d * (2 * g) = 2 * (d * g):=by rw [Nat.mul_left_comm]
  rw [e3]
  rw [if_neg (by omega),if_neg (by omega)]
 ·subst h
  have e3:d * (2 * a) = 2 * (d * a):=by rw [Nat.mul_left_comm]
  rw [e3]
  by_cases h0:r = 0
  ·have:=htz.2 h0
   by_cases h1:b % 2 = 1
   ·rw [if_pos (Or.inr ⟨by omega,h1⟩),if_pos (Or.inr ⟨by omega,h1⟩)]
   ·rw [if_neg (by omega),if_neg (by omega)]
  ·have:t ≠ 0:=fun e=>h0 (htz.1 e)
   rw [if_pos (Or.inl (by omega)),if_pos (Or.inl (by omega))]
 ·have:d * g+d≤d * a:=by rw [← Nat.mul_succ];exact Nat.mul_le_mul_left d h
  have e3:d * (2 * g) = 2 * (d * g):=by rw [Nat.mul_left_comm]
  rw [e3]
  rw [if_pos (Or.inl (by omega)),if_pos (Or.inl (by omega))]
theorem stk_bl (N d i:Nat) (hd:0 < d) (hq:0 < N / d):bl (stk (N * 2 ^ i) d) = bl (stk N d)+i:=by
 have hp:0 < 2 ^ i:=Nat.two_pow_pos _
 have hs:stk N d ≠ 0:=by unfold stk;omega
 obtain ⟨b1,b2,b3⟩:=bl_spec (stk N d) hs
 have h1:2≤stk N d:=by unfold stk;omega
 have hb2:2≤bl (stk N d):=by
  rcases Nat.lt_or_ge (bl (stk N d)) 2 with h | h
  ·have:bl (stk N d) = 1:=by omega
   rw [this] at b3;omega
  ·exact h
 obtain ⟨c,hc⟩:∃ c,bl (stk N d) = c+2:=⟨bl (stk N d) - 2,by omega⟩
 rw [hc] at b2 b3 ⊢
 -- of whole quotients: 2^c≤N / d < 2^(c+1)
 have q1:2 ^ (c+1)≤N / d * 2:=by
  rw [show c+2 - 1 = c+1 by omega,Nat.pow_succ] at b2
  unfold stk at b2
  rw [Nat.pow_succ]
  have ht:(if N % d = 0 then 0 else 1)≤1:=by split <;> omega
  omega
 have q2:N / d < 2 ^ (c+1):=by
  rw [Nat.pow_succ] at b3
  unfold stk at b3
  omega
 have q3:2 ^ c≤N / d:=by rw [Nat.pow_succ] at q1;omega
 have n1:2 ^ c * d≤N:=(Nat.le_div_iff_mul_le hd).1 q3
 have n2:N < 2 ^ (c+1) * d:=(Nat.div_lt_iff_lt_mul hd).1 q2
 have m1:2 ^ (c+i)≤N * 2 ^ i / d:=(Nat.le_div_iff_mul_le hd).2 (by
  rw [Nat.pow_add,Nat.mul_right_comm];exact Nat.mul_le_mul_right _ n1)
 have m2:N * 2 ^ i / d < 2 ^ (c+1+i):=(Nat.div_lt_iff_lt_mul hd).2 (by
  rw [Nat.pow_add,Nat.mul_right_comm];exact (Nat.mul_lt_mul_right hp).2 n2)
 refine bl_of (by omega) ?_ ?_
 ·rw [show c+2+i - 1 = c+i+1 by omega,Nat.pow_succ]
  unfold stk
  omega
 ·rw [show c+2+i = c+1+i+1 by omega,Nat.pow_succ]
  unfold stk
  have ht:(if N * 2 ^ i % d = 0 then 0 else 1)≤1:=by split <;> omega
  omega
theorem stk_big {N d:Nat} (hq:9007199254740992≤N / d):55≤bl (stk N d):=by
 have hs:stk N d ≠ 0:=by unfold stk;omega
 obtain ⟨b1,b2,b3⟩:=bl_spec (stk N d) hs
 have h:2 ^ 54≤stk N d:=by
  have:(2:Nat) ^ 54 = 2 * 9007199254740992:=by decide
  rw [this];unfold stk;omega
 have:=pow_lt_of (Nat.lt_of_le_of_lt h b3)
 omega
theorem stk_step (N d i:Nat) (E:Int) (hd:0 < d) (hq:9007199254740992≤N / d) :
  rnd (stk (N * 2 ^ i) d) (E - i) = rnd (stk N d) E∧lastE (stk (N * 2 ^ i) d) (E - i) = lastE (stk N d) E∧(bl (stk (N * 2 ^ i) d):Int)+(E - i) = (bl (stk N d):Int)+E∧E+2≤lastE (stk N d) E:=by
 have hb:=stk_bl N d i hd (by omega)
 have h55:=stk_big hq
 have hs:stk N d ≠ 0:=by unfold stk;omega
 have hs':stk (N * 2 ^ i) d ≠ 0:=fun h=>by
  rw [h] at hb
  have:bl 0 = 0:=rfl
  omega
 have hl:lastE (stk (N * 2 ^ i) d) (E - i) = lastE (stk N d) E:=by unfold lastE;rw [hb];omega
 have hbE:(bl (stk (N * 2 ^ i) d):Int)+(E - i) = (bl (stk N d):Int)+E:=by rw [hb];omega
 have h2:E+2≤lastE (stk N d) E:=by have:=(lastE_ge (stk N d) E).2.1;omega
 refine ⟨?_,hl,hbE,h2⟩
 have hM:rndM (stk (N * 2 ^ i) d) (E - i) = rndM (stk N d) E:=by
  unfold rndM
  rw [hl]
  obtain ⟨k,hk⟩:∃ k:Nat,lastE (stk N d) E = E+k+1∧1≤k:=⟨(lastE (stk N d) E - E - 1).toNat,by omega,by omega⟩
  rw [show E - i - lastE (stk N d) E = -((k+i+1:Nat):Int) by omega,show E - lastE (stk N d) E = -((k+1:Nat):Int) by omega]
  rw [mS_down _ _ (by omega),mS_down _ _ (by omega),stk_cut _ _ _ hd (by omega),stk_cut _ _ _ hd (by omega)]
  rw [Nat.pow_add,← Nat.mul_assoc]
  exact cutQ_scale _ _ _
 unfold rnd
 rw [if_neg hs,if_neg hs',hbE,hM,hl]
theorem stk_flag (N d i:Nat) (E:Int) (hd:d % 2 = 1) (hq:9007199254740992≤N / d) :
  rflag (oM (stk (N * 2 ^ i) d:Nat)).natAbs (oE (stk (N * 2 ^ i) d:Nat) (E - i)) = rflag (oM (stk N d:Nat)).natAbs (oE (stk N d:Nat) E):=by
 have hd0:0 < d:=by omega
 obtain ⟨s1,s2,s3,s4⟩:=stk_step N d i E hd0 hq
 by_cases h0:N % d = 0
 ·have hN:N = N / d * d:=by have:=Nat.div_add_mod N d;rw [h0,Nat.add_zero,Nat.mul_comm] at this;exact this.symm
  have h1:N * 2 ^ i % d = 0:=by rw [Nat.mul_mod,h0];simp
  have h2:N * 2 ^ i / d = N / d * 2 ^ i:=by
   conv=>lhs;rw [hN,Nat.mul_right_comm]
   exact Nat.mul_div_cancel _ hd0
  have e:stk (N * 2 ^ i) d = stk N d * 2 ^ i:=by
   unfold stk;rw [if_pos h0,if_pos h1,h2];rw [Nat.add_zero,Nat.add_zero,Nat.mul_assoc]
  have e2:((stk (N * 2 ^ i) d:Nat):Int) = ((stk N d:Nat):Int) * 2 ^ i:=by rw [e,Int.natCast_mul,Int.natCast_pow];rfl
  have:=oM_scale ((stk N d:Nat):Int) i (E - i)
  rw [e2,this.1,this.2,show E - (i:Int)+i = E by omega]
 ·have h1:N * 2 ^ i % d ≠ 0:=fun h=>h0 (by
   have hdv:d ∣ N * 2 ^ i:=Nat.dvd_of_mod_eq_zero h
   have hc:Nat.Coprime d (2 ^ i):=by
    apply Nat.Coprime.pow_right
    unfold Nat.Coprime
    have h4:Nat.gcd d 2 ∣ 2:=Nat.gcd_dvd_right d 2
    have h5:Nat.gcd d 2 ∣ d:=Nat.gcd_dvd_left d 2
    have h6:Nat.gcd d 2≤2:=Nat.le_of_dvd (by decide) h4
    have h7:Nat.gcd d 2 ≠ 0:=fun e=>by rw [e] at h4;exact absurd (Nat.eq_zero_of_zero_dvd h4) (by decide)
    have h8:Nat.gcd d 2 ≠ 2:=fun e=>by rw [e] at h5;omega
    omega
   exact Nat.mod_eq_zero_of_dvd (hc.dvd_of_dvd_mul_right hdv))
  have o1:((stk N d:Nat):Int) % 2 = 1:=by unfold stk;rw [if_neg h0];omega
  have o2:((stk (N * 2 ^ i) d:Nat):Int) % 2 = 1:=by unfold stk;rw [if_neg h1];omega
  have z1:∀ (v:Nat) (e:Int),(v:Int) % 2 = 1→oM (v:Int) = v∧oE (v:Int) e = e:=fun v e h=>by
   have hne:(v:Int) ≠ 0:=by omega
   have a:=(oddOf (v:Int) hne).unique (m':=(v:Int)) (k':=0) ⟨by simp,h⟩
   exact ⟨a.1,by rw [oE_ne _ _ hne,a.2];simp⟩
  rw [(z1 _ (E - i) o2).1,(z1 _ (E - i) o2).2,(z1 _ E o1).1,(z1 _ E o1).2,Int.natAbs_natCast,Int.natAbs_natCast]
  have n1:stk N d ≠ 0:=by omega
  have n2:stk (N * 2 ^ i) d ≠ 0:=by omega
  unfold rflag
  rw [if_neg n1,if_neg n2,s3,s2,s1,if_neg (show ¬ lastE (stk N d) E≤E - i by omega),if_neg (show ¬ lastE (stk N d) E≤E by omega)]
theorem stk_any (n d p q:Nat) (c:Int) (hd:0 < d) (hp:9007199254740992≤n * 2 ^ p / d) (hq:9007199254740992≤n * 2 ^ q / d) :
  rnd (stk (n * 2 ^ p) d) (c - p) = rnd (stk (n * 2 ^ q) d) (c - q):=by
 have h1:=(stk_step (n * 2 ^ p) d q (c - p) hd hp).1
 have h2:=(stk_step (n * 2 ^ q) d p (c - q) hd hq).1
 rw [Nat.mul_assoc,← Nat.pow_add] at h1 h2
 rw [Nat.add_comm q p,show c - (q:Int) - p = c - p - q by omega] at h2
 rw [← h1,← h2]
theorem stk_any_flag (n d p q:Nat) (c:Int) (hd:d % 2 = 1) (hp:9007199254740992≤n * 2 ^ p / d) (hq:9007199254740992≤n * 2 ^ q / d) :
  rflag (oM (stk (n * 2 ^ p) d:Nat)).natAbs (oE (stk (n * 2 ^ p) d:Nat) (c - p)) = rflag (oM (stk (n * 2 ^ q) d:Nat)).natAbs (oE (stk (n * 2 ^ q) d:Nat) (c - q)):=by
 have h1:=stk_flag (n * 2 ^ p) d q (c - p) hd hp
 have h2:=stk_flag (n * 2 ^ q) d p (c - q) hd hq
 rw [Nat.mul_assoc,← Nat.pow_add] at h1 h2
 rw [Nat.add_comm q p,show c - (q:Int) - p = c - p - q by omega] at h2
 rw [← h1,← h2]
theorem stk_both (N d c:Nat):stk (N * 2 ^ c) (d * 2 ^ c) = stk N d:=by
 have hp:0 < 2 ^ c:=Nat.two_pow_pos _
 unfold stk
 rw [Nat.mul_div_mul_right _ _ hp,Nat.mul_mod_mul_right]
 have:N % d * 2 ^ c = 0 ↔ N % d = 0:=by
  constructor
  ·intro h;rcases Nat.mul_eq_zero.1 h with h | h <;> omega
  ·intro h;rw [h,Nat.zero_mul]
 simp only [this]
end Go.Proofs.YtdhmglmccafbnaaGreatDoor
namespace Go.Proofs.YtdhmglmccafbnaaGreatDoor
open Go.RowKit
theorem rv_eq0 (r:Nat):rv r = 0 ↔ r = 0:=by
 constructor
 ·intro h
  rcases Nat.eq_zero_or_pos r with e | e
  ·exact e
  ·have:=rv_lt e;rw [rv_zero] at this;omega
 ·intro h;rw [h,rv_zero]
theorem fK_zero (b:Nat):fK b = 0 ↔ fR b = 0:=by
 have h:=fR_lt b
 have hF:fF b = fR b % 4503599627370496:=by unfold fF fR;omega
 have hP:fP b = fR b / 4503599627370496:=rfl
 unfold fK
 rw [hF,hP]
 generalize fR b = r at *
 split
 ·split <;> constructor <;> intro _ <;> omega
 ·split
  ·split <;> constructor <;> intro _ <;> omega
  ·constructor <;> intro _ <;> omega
def mV (a b:Nat):Nat :=
 if fK a = 4 ∨ fK b = 4 then 9221120237041090560
 else if fK a = 3 ∨ fK b = 3 then (if fK a = 0 ∨ fK b = 0 then 9221120237041090560 else wrd (fS a ^^ fS b) 9218868437227405312)
 else wrd (fS a ^^ fS b) (rnd (rv (fR a) * rv (fR b)) (-2148))
def mF (a b:Nat):Int :=
 if fK a = 4 ∨ fK b = 4 then 0
 else if fK a = 3 ∨ fK b = 3 then (if fK a = 0 ∨ fK b = 0 then 16 else 0)
 else if fK a = 0 ∨ fK b = 0 then 0
 else rflag (oM (fZ a * fZ b)).natAbs (oE (fZ a * fZ b) (-2148))
theorem mV_lt (a b:Nat):mV a b < 18446744073709551616:=by
 have h:=rnd_le (rv (fR a) * rv (fR b)) (-2148)
 unfold mV
 split
 ·omega
 ·split
  ·split
   ·omega
   ·exact wrd_lt _ _ (by omega)
  ·exact wrd_lt _ _ (by omega)
theorem odd_mag (b:Nat) (hb:b < 18446744073709551616) (hf:fFin b = true) (h0:fK b ≠ 0) :
  ∃ β:Nat,fX b = -1074+(β:Int)∧rv (fR b) = (fD b).natAbs * 2 ^ β∧(fD b).natAbs % 2 = 1∧(fD b).natAbs < 9007199254740992:=by
 obtain ⟨d1,d2⟩:=fZ_level b hb hf
 have hr:fR b ≠ 0:=fun e=>h0 ((fK_zero b).2 e)
 have hz:fZ b ≠ 0:=fun e=>hr ((rv_eq0 _).1 (by rw [← fZ_abs,e];rfl))
 have h1:=oM_abs (fZ b) hz
 have h2:=oE_ne (fZ b) (-1074) hz
 refine ⟨tz (fZ b).natAbs,by rw [← d2,h2],by rw [← fZ_abs,h1,d1];congr 2;rw [← d1,← h1],?_,?_⟩
 ·have:=(oM_ne (fZ b) hz).2
  rw [d1] at this
  omega
 ·have:(oM (fM b)).natAbs≤(fM b).natAbs:=oM_le _
  have h3:=fM_lt b
  show (oM (fM b)).natAbs < _
  omega
def qS (a b:Nat):Nat:=stk ((fD a).natAbs * 2 ^ 180) (fD b).natAbs
def qV (a b:Nat):Nat:=rnd (qS a b) (fX a - fX b - 181)
def qF (a b:Nat):Int:=rflag (oM (qS a b:Nat)).natAbs (oE (qS a b:Nat) (fX a - fX b - 181))
def dV (a b:Nat):Nat :=
 if fK a = 4 ∨ fK b = 4 then 9221120237041090560
 else if fK a = fK b∧(fK a = 3 ∨ fK a = 0) then 9221120237041090560
 else if fK a = 3 then wrd (fS a ^^ fS b) 9218868437227405312
 else if fK b = 3 ∨ fK a = 0 then wrd (fS a ^^ fS b) 0
 else if fK b = 0 then wrd (fS a ^^ fS b) 9218868437227405312
 else wrd (fS a ^^ fS b) (qV a b)
def dF (a b:Nat):Int :=
 if fK a = 4 ∨ fK b = 4 then 0
 else if fK a = fK b∧(fK a = 3 ∨ fK a = 0) then 16
 else if fK a = 3 then 0
 else if fK b = 3 ∨ fK a = 0 then 0
 else if fK b = 0 then 8
 else qF a b
theorem dV_lt (a b:Nat):dV a b < 18446744073709551616:=by
 have h:qV a b≤9218868437227405312:=rnd_le _ _
 have i1:=wrd_lt (fS a ^^ fS b) 9218868437227405312 (by decide)
 have i2:=wrd_lt (fS a ^^ fS b) 0 (by decide)
 have i3:=wrd_lt (fS a ^^ fS b) (qV a b) (by omega)
 unfold dV
 repeat' split
 all_goals omega
theorem quo_big (o d:Nat) (ho:1≤o) (hd:d < 9007199254740992) (hd0:0 < d):9007199254740992≤o * 2 ^ 180 / d:=by
 rw [Nat.le_div_iff_mul_le hd0]
 have h1:9007199254740992 * d≤9007199254740992 * 9007199254740992:=Nat.mul_le_mul_left _ (by omega)
 have h2:9007199254740992 * 9007199254740992≤1 * 2 ^ 180:=by decide +kernel
 have h3:1 * 2 ^ 180≤o * 2 ^ 180:=Nat.mul_le_mul_right _ ho
 exact Nat.le_trans h1 (Nat.le_trans h2 h3)
end Go.Proofs.YtdhmglmccafbnaaGreatDoor
namespace Go.Proofs.YtdhmglmccafbnaaGreatDoor
open Go.RowKit
theorem rnd_D (b:Nat) (hf:fFin b = true):rnd (fD b).natAbs (fX b) = fR b:=by
 have hr:=rnd_bits b hf
 have ho:=rnd_odd (fM b) (fE b)
 rw [fM_abs] at ho
 exact ho.1.trans hr.1
theorem rnd_rv (b:Nat) (hb:b < 18446744073709551616) (hf:fFin b = true):rnd (rv (fR b)) (-1074) = fR b:=by
 obtain ⟨d1,d2⟩:=fZ_level b hb hf
 have h:=(rnd_odd (fZ b) (-1074)).1
 rw [d1,d2,fZ_abs,rnd_D b hf] at h
 exact h.symm
theorem kind_pos (a:Nat) (fa:fFin a = true) (a0:fK a ≠ 0):fK a ≠ 3∧fK a ≠ 4∧fK a ≠ 0:=⟨(fin_kind fa).1,(fin_kind fa).2,a0⟩
theorem dV_fin (a b:Nat) (fa:fFin a = true) (fb:fFin b = true) (a0:fK a ≠ 0) (b0:fK b ≠ 0):dV a b = wrd (fS a ^^ fS b) (qV a b)∧dF a b = qF a b:=by
 obtain ⟨a3,a4,_⟩:=kind_pos a fa a0
 obtain ⟨b3,b4,_⟩:=kind_pos b fb b0
 have h1:¬ (fK a = 4 ∨ fK b = 4):=by omega
 have h2:¬ (fK a = fK b∧(fK a = 3 ∨ fK a = 0)):=by omega
 have h3:¬ (fK b = 3 ∨ fK a = 0):=by omega
 unfold dV dF
 simp only [if_neg h1,if_neg h2,if_neg a3,if_neg h3,if_neg b0,and_self]
theorem mV_fin (a b:Nat) (fa:fFin a = true) (fb:fFin b = true) (a0:fK a ≠ 0) (b0:fK b ≠ 0):mV a b = wrd (fS a ^^ fS b) (rnd (rv (fR a) * rv (fR b)) (-2148))∧mF a b = rflag (oM (fZ a * fZ b)).natAbs (oE (fZ a * fZ b) (-2148)):=by
 obtain ⟨a3,a4,_⟩:=kind_pos a fa a0
 obtain ⟨b3,b4,_⟩:=kind_pos b fb b0
 have h1:¬ (fK a = 4 ∨ fK b = 4):=by omega
 have h2:¬ (fK a = 3 ∨ fK b = 3):=by omega
 have h3:¬ (fK a = 0 ∨ fK b = 0):=by omega
 unfold mV mF
 simp only [if_neg h1,if_neg h2,if_neg h3,and_self]
end Go.Proofs.YtdhmglmccafbnaaGreatDoor
namespace Go.Proofs.YtdhmglmccafbnaaGreatDoor
open Go.RowKit
theorem rnd_high {v:Nat} {E:Int} (hv:v ≠ 0) (h:1024 < (bl v:Int)+E):rnd v E = 9218868437227405312∧rflag v E = 5:=by
 unfold rflag rnd
 rw [if_neg hv,if_pos h,if_neg hv,if_pos h]
 exact ⟨rfl,rfl⟩
theorem cutE_small {v k:Nat} (h:2 * v < 2 ^ k):cutE v k = 0:=by
 unfold cutE
 have h1:v / 2 ^ k = 0:=Nat.div_eq_of_lt (by omega)
 have h2:v % 2 ^ k = v:=Nat.mod_eq_of_lt (by omega)
 rw [h1,h2,if_neg (by omega)]
theorem rnd_low {v:Nat} {E:Int} (hv:v ≠ 0) (h:(bl v:Int)+E < -1074):rnd v E = 0∧rflag v E = 3:=by
 obtain ⟨b1,b2,b3⟩:=bl_spec v hv
 have hl:lastE v E = -1074:=by unfold lastE;omega
 obtain ⟨j,hj⟩:∃ j:Nat,E - -1074 = -((j:Nat):Int):=⟨(-1074 - E).toNat,by omega⟩
 have hM:rndM v E = 0:=by
  unfold rndM
  rw [hl,hj,mS_down _ _ (by omega)]
  refine cutE_small ?_
  have h1:2 ^ (bl v+1)≤2 ^ j:=Nat.pow_le_pow_right (by decide) (by omega)
  rw [Nat.pow_succ] at h1
  omega
 have hr:rnd v E = 0:=by
  rw [rnd_fin v E hv (by omega),hM,hl]
  rfl
 refine ⟨hr,?_⟩
 unfold rflag
 rw [if_neg hv,if_neg (by omega),if_neg (by rw [hl];omega),hr,if_neg (by decide),if_pos (by decide)]
def gM (r:Nat):Nat:=4503599627370496+r % 4503599627370496
theorem gM_rv (r:Nat) (h:4503599627370496≤r):rv r = gM r * 2 ^ (r / 4503599627370496 - 1):=by
 have e:r = gM r+(r / 4503599627370496 - 1) * 4503599627370496:=by unfold gM;omega
 have:=rv_of (gM r) (r / 4503599627370496 - 1) (by unfold gM;omega) (fun _=>by unfold gM;omega)
 rwa [← e] at this
end Go.Proofs.YtdhmglmccafbnaaGreatDoor
