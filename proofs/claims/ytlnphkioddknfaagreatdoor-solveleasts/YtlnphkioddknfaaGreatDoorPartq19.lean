/- Part 19 of the texts. -/
import Derived.Test.YtlnphkioddknfaaGreatDoorPartq17
import Derived.Test.YtlnphkioddknfaaGreatDoorPartq18
namespace Go.Proofs.YtlnphkioddknfaaGreatDoor
def stk (N d:Nat):Nat:=2 * (N / d)+(if N % d = 0 then 0 else 1)
def cutQ (N D:Nat):Nat:=N / D+(if D < 2 * (N % D) ∨ (D = 2 * (N % D)∧N / D % 2 = 1) then 1 else 0)
theorem cutQ_scale (N D i:Nat):cutQ (N * 2 ^ i) (D * 2 ^ i) = cutQ N D:=by
 have hp:0 < 2 ^ i:=Nat.two_pow_pos _
 unfold cutQ
 rw [Nat.mul_div_mul_right _ _ hp,Nat.mul_mod_mul_right]
 have h1:(D * 2 ^ i < 2 * (N % D * 2 ^ i)) ↔ D < 2 * (N % D):=by
  rw [← Nat.mul_assoc];exact Nat.mul_lt_mul_right hp
 have h2:(D * 2 ^ i = 2 * (N % D * 2 ^ i)) ↔ D = 2 * (N % D):=by
  rw [← Nat.mul_assoc];exact ⟨fun h=>Nat.eq_of_mul_eq_mul_right hp h,fun h=>by rw [← h]⟩
 simp only [h1,h2]
theorem stk_cut (N d k:Nat) (hd:0 < d) (hk:1≤k):cutE (stk N d) (k+1) = cutQ N (d * 2 ^ k):=by
 obtain ⟨j,rfl⟩:∃ j,k = j+1:=⟨k - 1,by omega⟩
 have hN:=Nat.div_add_mod N d
 have hr:=Nat.mod_lt N hd
 have hg:0 < 2 ^ j:=Nat.two_pow_pos _
 have e1:(2:Nat) ^ (j+1) = 2 * 2 ^ j:=by rw [Nat.pow_succ,Nat.mul_comm]
 have e2:(2:Nat) ^ (j+1+1) = 2 * (2 * 2 ^ j):=by rw [Nat.pow_succ,e1,Nat.mul_comm]
 have ht:(if N % d = 0 then 0 else 1)≤1:=by split <;> omega
 have htz:(if N % d = 0 then 0 else 1) = 0 ↔ N % d = 0:=by split <;> simp_all
 unfold cutE cutQ stk
 rw [e2,e1]
 generalize (2:Nat) ^ j = g at *
 generalize (if N % d = 0 then 0 else 1) = t at *
 have hq:=Nat.div_add_mod (N / d) (2 * g)
 have ha:=Nat.mod_lt (N / d) (show 0 < 2 * g by omega)
 have dv:N / (d * (2 * g)) = N / d / (2 * g):=(Nat.div_div_eq_div_mul N d (2 * g)).symm
 have md:N % (d * (2 * g)) = d * (N / d % (2 * g))+N % d:=by
  rw [Nat.mod_mul];omega
 rw [dv,md]
 generalize N % d = r at *
 generalize N / d = q at *
 generalize hA:q % (2 * g) = a at *
 generalize hQ:q / (2 * g) = b at *
 have s1:(2 * q+t) / (2 * (2 * g)) = b:=by
  rw [← hq,Nat.mul_add,← Nat.mul_assoc 2 (2 * g) b,Nat.add_assoc]
  rw [Nat.mul_add_div (by omega),Nat.div_eq_of_lt (by omega),Nat.add_zero]
 have s2:(2 * q+t) % (2 * (2 * g)) = 2 * a+t:=by
  rw [← hq,Nat.mul_add,← Nat.mul_assoc 2 (2 * g) b,Nat.add_assoc,Nat.mul_add_mod,Nat.mod_eq_of_lt (by omega)]
 rw [s1,s2]
 congr 1
 -- where a stands beside half
 rcases Nat.lt_trichotomy a g with h | h | h
 ·have:d * a+d≤d * g:=by rw [← Nat.mul_succ];exact Nat.mul_le_mul_left d h
  have e3:d * (2 * g) = 2 * (d * g):=by rw [Nat.mul_left_comm]
  rw [e3]
  rw [if_neg (by omega),if_neg (by omega)]
 ·subst h
  have e3:d * (2 * a) = 2 * (d * a):=by rw [Nat.mul_left_comm]
  rw [e3]
  by_cases h0:r = 0
  ·have:=htz.2 h0
   by_cases h1:b % 2 = 1
   ·rw [if_pos (Or.inr ⟨by omega,h1⟩),if_pos (Or.inr ⟨by omega,h1⟩)]
   ·rw [if_neg (by omega),if_neg (by omega)]
  ·have:t ≠ 0:=fun e=>h0 (htz.1 e)
   rw [if_pos (Or.inl (by omega)),if_pos (Or.inl (by omega))]
 ·have:d * g+d≤d * a:=by rw [← Nat.mul_succ];exact Nat.mul_le_mul_left d h
  have e3:d * (2 * g) = 2 * (d * g):=by rw [Nat.mul_left_comm]
  rw [e3]
  rw [if_pos (Or.inl (by omega)),if_pos (Or.inl (by omega))]
theorem stk_bl (N d i:Nat) (hd:0 < d) (hq:0 < N / d):bl (stk (N * 2 ^ i) d) = bl (stk N d)+i:=by
 have hp:0 < 2 ^ i:=Nat.two_pow_pos _
 have hs:stk N d ≠ 0:=by unfold stk;omega
 obtain ⟨b1,b2,b3⟩:=bl_spec (stk N d) hs
 have h1:2≤stk N d:=by unfold stk;omega
 have hb2:2≤bl (stk N d):=by
  rcases Nat.lt_or_ge (bl (stk N d)) 2 with h | h
  ·have:bl (stk N d) = 1:=by omega
   rw [this] at b3;omega
  ·exact h
 obtain ⟨c,hc⟩:∃ c,bl (stk N d) = c+2:=⟨bl (stk N d) - 2,by omega⟩
 rw [hc] at b2 b3 ⊢
 -- of whole quotients: 2^c≤N / d < 2^(c+1)
 have q1:2 ^ (c+1)≤N / d * 2:=by
  rw [show c+2 - 1 = c+1 by omega,Nat.pow_succ] at b2
  unfold stk at b2
  rw [Nat.pow_succ]
  have ht:(if N % d = 0 then 0 else 1)≤1:=by split <;> omega
  omega
 have q2:N / d < 2 ^ (c+1):=by
  rw [Nat.pow_succ] at b3
  unfold stk at b3
  omega
 have q3:2 ^ c≤N / d:=by rw [Nat.pow_succ] at q1;omega
 have n1:2 ^ c * d≤N:=(Nat.le_div_iff_mul_le hd).1 q3
 have n2:N < 2 ^ (c+1) * d:=(Nat.div_lt_iff_lt_mul hd).1 q2
 have m1:2 ^ (c+i)≤N * 2 ^ i / d:=(Nat.le_div_iff_mul_le hd).2 (by
  rw [Nat.pow_add,Nat.mul_right_comm];exact Nat.mul_le_mul_right _ n1)
 have m2:N * 2 ^ i / d < 2 ^ (c+1+i):=(Nat.div_lt_iff_lt_mul hd).2 (by
  rw [Nat.pow_add,Nat.mul_right_comm];exact (Nat.mul_lt_mul_right hp).2 n2)
 refine bl_of (by omega) ?_ ?_
 ·rw [show c+2+i - 1 = c+i+1 by omega,Nat.pow_succ]
  unfold stk
  omega
 ·rw [show c+2+i = c+1+i+1 by omega,Nat.pow_succ]
  unfold stk
  have ht:(if N * 2 ^ i % d = 0 then 0 else 1)≤1:=by split <;> omega
  omega
theorem stk_big {N d:Nat} (hq:9007199254740992≤N / d):55≤bl (stk N d):=by
 have hs:stk N d ≠ 0:=by unfold stk;omega
 obtain ⟨b1,b2,b3⟩:=bl_spec (stk N d) hs
 have h:2 ^ 54≤stk N d:=by
  have:(2:Nat) ^ 54 = 2 * 9007199254740992:=by decide
  rw [this];unfold stk;omega
 have:=pow_lt_of (Nat.lt_of_le_of_lt h b3)
 omega
theorem stk_step (N d i:Nat) (E:Int) (hd:0 < d) (hq:9007199254740992≤N / d) :
  rnd (stk (N * 2 ^ i) d) (E - i) = rnd (stk N d) E∧lastE (stk (N * 2 ^ i) d) (E - i) = lastE (stk N d) E∧(bl (stk (N * 2 ^ i) d):Int)+(E - i) = (bl (stk N d):Int)+E∧E+2≤lastE (stk N d) E:=by
 have hb:=stk_bl N d i hd (by omega)
 have h55:=stk_big hq
 have hs:stk N d ≠ 0:=by unfold stk;omega
 have hs':stk (N * 2 ^ i) d ≠ 0:=fun h=>by
  rw [h] at hb
  have:bl 0 = 0:=rfl
  omega
 have hl:lastE (stk (N * 2 ^ i) d) (E - i) = lastE (stk N d) E:=by unfold lastE;rw [hb];omega
 have hbE:(bl (stk (N * 2 ^ i) d):Int)+(E - i) = (bl (stk N d):Int)+E:=by rw [hb];omega
 have h2:E+2≤lastE (stk N d) E:=by have:=(lastE_ge (stk N d) E).2.1;omega
 refine ⟨?_,hl,hbE,h2⟩
 have hM:rndM (stk (N * 2 ^ i) d) (E - i) = rndM (stk N d) E:=by
  unfold rndM
  rw [hl]
  obtain ⟨k,hk⟩:∃ k:Nat,lastE (stk N d) E = E+k+1∧1≤k:=⟨(lastE (stk N d) E - E - 1).toNat,by omega,by omega⟩
  rw [show E - i - lastE (stk N d) E = -((k+i+1:Nat):Int) by omega,show E - lastE (stk N d) E = -((k+1:Nat):Int) by omega]
  rw [mS_down _ _ (by omega),mS_down _ _ (by omega),stk_cut _ _ _ hd (by omega),stk_cut _ _ _ hd (by omega)]
  rw [Nat.pow_add,← Nat.mul_assoc]
  exact cutQ_scale _ _ _
 unfold rnd
 rw [if_neg hs,if_neg hs',hbE,hM,hl]
theorem stk_flag (N d i:Nat) (E:Int) (hd:d % 2 = 1) (hq:9007199254740992≤N / d) :
  rflag (oM (stk (N * 2 ^ i) d:Nat)).natAbs (oE (stk (N * 2 ^ i) d:Nat) (E - i)) = rflag (oM (stk N d:Nat)).natAbs (oE (stk N d:Nat) E):=by
 have hd0:0 < d:=by omega
 obtain ⟨s1,s2,s3,s4⟩:=stk_step N d i E hd0 hq
 by_cases h0:N % d = 0
 ·have hN:N = N / d * d:=by have:=Nat.div_add_mod N d;rw [h0,Nat.add_zero,Nat.mul_comm] at this;exact this.symm
  have h1:N * 2 ^ i % d = 0:=by rw [Nat.mul_mod,h0];simp
  have h2:N * 2 ^ i / d = N / d * 2 ^ i:=by
   conv=>lhs;rw [hN,Nat.mul_right_comm]
   exact Nat.mul_div_cancel _ hd0
  have e:stk (N * 2 ^ i) d = stk N d * 2 ^ i:=by
   unfold stk;rw [if_pos h0,if_pos h1,h2];rw [Nat.add_zero,Nat.add_zero,Nat.mul_assoc]
  have e2:((stk (N * 2 ^ i) d:Nat):Int) = ((stk N d:Nat):Int) * 2 ^ i:=by rw [e,Int.natCast_mul,Int.natCast_pow];rfl
  have:=oM_scale ((stk N d:Nat):Int) i (E - i)
  rw [e2,this.1,this.2,show E - (i:Int)+i = E by omega]
 ·have h1:N * 2 ^ i % d ≠ 0:=fun h=>h0 (by
   have hdv:d ∣ N * 2 ^ i:=Nat.dvd_of_mod_eq_zero h
   have hc:Nat.Coprime d (2 ^ i):=by
    apply Nat.Coprime.pow_right
    unfold Nat.Coprime
    have h4:Nat.gcd d 2 ∣ 2:=Nat.gcd_dvd_right d 2
    have h5:Nat.gcd d 2 ∣ d:=Nat.gcd_dvd_left d 2
    have h6:Nat.gcd d 2≤2:=Nat.le_of_dvd (by decide) h4
    have h7:Nat.gcd d 2 ≠ 0:=fun e=>by rw [e] at h4;exact absurd (Nat.eq_zero_of_zero_dvd h4) (by decide)
    have h8:Nat.gcd d 2 ≠ 2:=fun e=>by rw [e] at h5;omega
    omega
   exact Nat.mod_eq_zero_of_dvd (hc.dvd_of_dvd_mul_right hdv))
  have o1:((stk N d:Nat):Int) % 2 = 1:=by unfold stk;rw [if_neg h0];omega
  have o2:((stk (N * 2 ^ i) d:Nat):Int) % 2 = 1:=by unfold stk;rw [if_neg h1];omega
  have z1:∀ (v:Nat) (e:Int),(v:Int) % 2 = 1→oM (v:Int) = v∧oE (v:Int) e = e:=fun v e h=>by
   have hne:(v:Int) ≠ 0:=by omega
   have a:=(oddOf (v:Int) hne).unique (m':=(v:Int)) (k':=0) ⟨by simp,h⟩
   exact ⟨a.1,by rw [oE_ne _ _ hne,a.2];simp⟩
  rw [(z1 _ (E - i) o2).1,(z1 _ (E - i) o2).2,(z1 _ E o1).1,(z1 _ E o1).2,Int.natAbs_natCast,Int.natAbs_natCast]
  have n1:stk N d ≠ 0:=by omega
  have n2:stk (N * 2 ^ i) d ≠ 0:=by omega
  unfold rflag
  rw [if_neg n1,if_neg n2,s3,s2,s1,if_neg (show ¬ lastE (stk N d) E≤E - i by omega),if_neg (show ¬ lastE (stk N d) E≤E by omega)]
theorem stk_any (n d p q:Nat) (c:Int) (hd:0 < d) (hp:9007199254740992≤n * 2 ^ p / d) (hq:9007199254740992≤n * 2 ^ q / d) :
  rnd (stk (n * 2 ^ p) d) (c - p) = rnd (stk (n * 2 ^ q) d) (c - q):=by
 have h1:=(stk_step (n * 2 ^ p) d q (c - p) hd hp).1
 have h2:=(stk_step (n * 2 ^ q) d p (c - q) hd hq).1
 rw [Nat.mul_assoc,← Nat.pow_add] at h1 h2
 rw [Nat.add_comm q p,show c - (q:Int) - p = c - p - q by omega] at h2
 rw [← h1,← h2]
theorem stk_any_flag (n d p q:Nat) (c:Int) (hd:d % 2 = 1) (hp:9007199254740992≤n * 2 ^ p / d) (hq:9007199254740992≤n * 2 ^ q / d) :
  rflag (oM (stk (n * 2 ^ p) d:Nat)).natAbs (oE (stk (n * 2 ^ p) d:Nat) (c - p)) = rflag (oM (stk (n * 2 ^ q) d:Nat)).natAbs (oE (stk (n * 2 ^ q) d:Nat) (c - q)):=by
 have h1:=stk_flag (n * 2 ^ p) d q (c - p) hd hp
 have h2:=stk_flag (n * 2 ^ q) d p (c - q) hd hq
 rw [Nat.mul_assoc,← Nat.pow_add] at h1 h2
 rw [Nat.add_comm q p,show c - (q:Int) - p = c - p - q by omega] at h2
 rw [← h1,← h2]
theorem stk_both (N d c:Nat):stk (N * 2 ^ c) (d * 2 ^ c) = stk N d:=by
 have hp:0 < 2 ^ c:=Nat.two_pow_pos _
 unfold stk
 rw [Nat.mul_div_mul_right _ _ hp,Nat.mul_mod_mul_right]
 have:N % d * 2 ^ c = 0 ↔ N % d = 0:=by
  constructor
  ·intro h;rcases Nat.mul_eq_zero.1 h with h | h <;> omega
  ·intro h;rw [h,Nat.zero_mul]
 simp only [this]
end Go.Proofs.YtlnphkioddknfaaGreatDoor
namespace Go.Proofs.YtlnphkioddknfaaGreatDoor
open Go.RowKit
theorem rv_eq0 (r:Nat):rv r = 0 ↔ r = 0:=by
 constructor
 ·intro h
  rcases Nat.eq_zero_or_pos r with e | e
  ·exact e
  ·have:=rv_lt e;rw [rv_zero] at this;omega
 ·intro h;rw [h,rv_zero]
theorem fK_zero (b:Nat):fK b = 0 ↔ fR b = 0:=by
 have h:=fR_lt b
 have hF:fF b = fR b % 4503599627370496:=by unfold fF fR;omega
 have hP:fP b = fR b / 4503599627370496:=rfl
 unfold fK
 rw [hF,hP]
 generalize fR b = r at *
 split
 ·split <;> constructor <;> intro _ <;> omega
 ·split
  ·split <;> constructor <;> intro _ <;> omega
  ·constructor <;> intro _ <;> omega
def mV (a b:Nat):Nat :=
 if fK a = 4 ∨ fK b = 4 then 9221120237041090560
 else if fK a = 3 ∨ fK b = 3 then (if fK a = 0 ∨ fK b = 0 then 9221120237041090560 else wrd (fS a ^^ fS b) 9218868437227405312)
 else wrd (fS a ^^ fS b) (rnd (rv (fR a) * rv (fR b)) (-2148))
def mF (a b:Nat):Int :=
 if fK a = 4 ∨ fK b = 4 then 0
 else if fK a = 3 ∨ fK b = 3 then (if fK a = 0 ∨ fK b = 0 then 16 else 0)
 else if fK a = 0 ∨ fK b = 0 then 0
 else rflag (oM (fZ a * fZ b)).natAbs (oE (fZ a * fZ b) (-2148))
def mN (a b:Nat):Bool:=decide ((fK a = 4 ∨ fK b = 4) ∨ ((fK a = 3 ∨ fK b = 3)∧(fK a = 0 ∨ fK b = 0)))
theorem mV_lt (a b:Nat):mV a b < 18446744073709551616:=by
 have h:=rnd_le (rv (fR a) * rv (fR b)) (-2148)
 unfold mV
 split
 ·omega
 ·split
  ·split
   ·omega
   ·exact wrd_lt _ _ (by omega)
  ·exact wrd_lt _ _ (by omega)
theorem mul_comm6 (a b:Nat):mV a b = mV b a∧mF a b = mF b a:=by
 have h1:(fK a = 4 ∨ fK b = 4) ↔ (fK b = 4 ∨ fK a = 4):=Or.comm
 have h2:(fK a = 3 ∨ fK b = 3) ↔ (fK b = 3 ∨ fK a = 3):=Or.comm
 have h3:(fK a = 0 ∨ fK b = 0) ↔ (fK b = 0 ∨ fK a = 0):=Or.comm
 unfold mV mF
 rw [Bool.xor_comm (fS b) (fS a),Nat.mul_comm (rv (fR b)),Int.mul_comm (fZ b)]
 simp only [h1,h2,h3,and_self]
theorem mag_zero {m k r:Nat} (h:m * 2 ^ k = rv r):m = 0 ↔ r = 0:=by
 have hp:0 < 2 ^ k:=Nat.two_pow_pos _
 rw [← rv_eq0 r,← h]
 constructor
 ·intro e;rw [e,Nat.zero_mul]
 ·intro e;rcases Nat.mul_eq_zero.1 e with e | e <;> omega
theorem fmul_none (a b:Nat) (ha:a < 18446744073709551616) (hb:b < 18446744073709551616) (h:mN a b = true):Ieee.double.mul a b = none∧mV a b = 9221120237041090560:=by
 unfold Ieee.Format.mul
 rcases of_decide_eq_true h with (h | h) | ⟨h3,h0⟩
 ·obtain ⟨s,f,e⟩:=read_nan a ha h
  refine ⟨by rw [e];rfl,?_⟩
  unfold mV;rw [if_pos (Or.inl h)]
 ·obtain ⟨s,f,e⟩:=read_nan b hb h
  refine ⟨?_,?_⟩
  ·rw [e];cases Ieee.double.read a <;> rfl
  ·unfold mV;rw [if_pos (Or.inr h)]
 ·refine ⟨?_,?_⟩
  ·rcases h3 with h3 | h3
   ·have hb0:fK b = 0:=by rcases h0 with h | h <;> omega
    obtain ⟨m,k,e,em⟩:=read_fin b hb (fin_of b (by omega) (by omega))
    have:m = 0:=(mag_zero em).2 ((fK_zero b).1 hb0)
    rw [read_inf a ha h3,e,this];rfl
   ·have ha0:fK a = 0:=by rcases h0 with h | h <;> omega
    obtain ⟨m,k,e,em⟩:=read_fin a ha (fin_of a (by omega) (by omega))
    have:m = 0:=(mag_zero em).2 ((fK_zero a).1 ha0)
    rw [read_inf b hb h3,e,this];rfl
  ·unfold mV
   by_cases h4:fK a = 4 ∨ fK b = 4
   ·rw [if_pos h4]
   ·rw [if_neg h4,if_pos h3,if_pos h0]
theorem fmul_some (a b:Nat) (ha:a < 18446744073709551616) (hb:b < 18446744073709551616) (h:mN a b = false):Ieee.double.mul a b = some (mV a b):=by
 have h':=of_decide_eq_false h
 have n4:¬ (fK a = 4 ∨ fK b = 4):=fun e=>h' (Or.inl e)
 have n3:(fK a = 3 ∨ fK b = 3)→¬ (fK a = 0 ∨ fK b = 0):=fun e e2=>h' (Or.inr ⟨e,e2⟩)
 unfold Ieee.Format.mul mV
 rw [if_neg n4]
 by_cases c1:fK a = 3
 ·rw [if_pos (Or.inl c1),if_neg (n3 (Or.inl c1)),read_inf a ha c1]
  by_cases c2:fK b = 3
  ·rw [read_inf b hb c2]
   show some (Ieee.double.write (.infinity (fS a ^^ fS b))) = _
   rw [write_inf]
  ·obtain ⟨m,k,e,em⟩:=read_fin b hb (fin_of b c2 (by omega))
   have hm:m ≠ 0:=fun e0=>n3 (Or.inl c1) (Or.inr ((fK_zero b).2 ((mag_zero em).1 e0)))
   rw [e]
   show Option.map Ieee.double.write (if m = 0 then none else some (.infinity (fS a ^^ fS b))) = _
   rw [if_neg hm,Option.map_some,write_inf]
 ·obtain ⟨m,k,e,em⟩:=read_fin a ha (fin_of a c1 (by omega))
  rw [e]
  by_cases c2:fK b = 3
  ·have hm:m ≠ 0:=fun e0=>n3 (Or.inr c2) (Or.inl ((fK_zero a).2 ((mag_zero em).1 e0)))
   rw [if_pos (Or.inr c2),if_neg (n3 (Or.inr c2)),read_inf b hb c2]
   show Option.map Ieee.double.write (if m = 0 then none else some (.infinity (fS b ^^ fS a))) = _
   rw [if_neg hm,Option.map_some,write_inf,Bool.xor_comm]
  ·obtain ⟨m2,k2,e2,em2⟩:=read_fin b hb (fin_of b c2 (by omega))
   rw [if_neg (by omega),e2]
   show some (Ieee.double.nearest (fS a ^^ fS b) (m * m2) (-1074+(k:Int)+(-1074+(k2:Int)))) = _
   rw [nearest_wrd]
   congr 2
   rw [← em,← em2,show m * 2 ^ k * (m2 * 2 ^ k2) = m * m2 * 2 ^ (k+k2) by rw [Nat.pow_add];ac_rfl,rnd_scale]
   congr 1
   omega
theorem odd_mag (b:Nat) (hb:b < 18446744073709551616) (hf:fFin b = true) (h0:fK b ≠ 0) :
  ∃ β:Nat,fX b = -1074+(β:Int)∧rv (fR b) = (fD b).natAbs * 2 ^ β∧(fD b).natAbs % 2 = 1∧(fD b).natAbs < 9007199254740992:=by
 obtain ⟨d1,d2⟩:=fZ_level b hb hf
 have hr:fR b ≠ 0:=fun e=>h0 ((fK_zero b).2 e)
 have hz:fZ b ≠ 0:=fun e=>hr ((rv_eq0 _).1 (by rw [← fZ_abs,e];rfl))
 have h1:=oM_abs (fZ b) hz
 have h2:=oE_ne (fZ b) (-1074) hz
 refine ⟨tz (fZ b).natAbs,by rw [← d2,h2],by rw [← fZ_abs,h1,d1];congr 2;rw [← d1,← h1],?_,?_⟩
 ·have:=(oM_ne (fZ b) hz).2
  rw [d1] at this
  omega
 ·have:(oM (fM b)).natAbs≤(fM b).natAbs:=oM_le _
  have h3:=fM_lt b
  show (oM (fM b)).natAbs < _
  omega
def qS (a b:Nat):Nat:=stk ((fD a).natAbs * 2 ^ 180) (fD b).natAbs
def qV (a b:Nat):Nat:=rnd (qS a b) (fX a - fX b - 181)
def qF (a b:Nat):Int:=rflag (oM (qS a b:Nat)).natAbs (oE (qS a b:Nat) (fX a - fX b - 181))
def dV (a b:Nat):Nat :=
 if fK a = 4 ∨ fK b = 4 then 9221120237041090560
 else if fK a = fK b∧(fK a = 3 ∨ fK a = 0) then 9221120237041090560
 else if fK a = 3 then wrd (fS a ^^ fS b) 9218868437227405312
 else if fK b = 3 ∨ fK a = 0 then wrd (fS a ^^ fS b) 0
 else if fK b = 0 then wrd (fS a ^^ fS b) 9218868437227405312
 else wrd (fS a ^^ fS b) (qV a b)
def dF (a b:Nat):Int :=
 if fK a = 4 ∨ fK b = 4 then 0
 else if fK a = fK b∧(fK a = 3 ∨ fK a = 0) then 16
 else if fK a = 3 then 0
 else if fK b = 3 ∨ fK a = 0 then 0
 else if fK b = 0 then 8
 else qF a b
def dN (a b:Nat):Bool:=decide ((fK a = 4 ∨ fK b = 4) ∨ (fK a = fK b∧(fK a = 3 ∨ fK a = 0)))
theorem dV_lt (a b:Nat):dV a b < 18446744073709551616:=by
 have h:qV a b≤9218868437227405312:=rnd_le _ _
 have i1:=wrd_lt (fS a ^^ fS b) 9218868437227405312 (by decide)
 have i2:=wrd_lt (fS a ^^ fS b) 0 (by decide)
 have i3:=wrd_lt (fS a ^^ fS b) (qV a b) (by omega)
 unfold dV
 repeat' split
 all_goals omega
theorem quo_big (o d:Nat) (ho:1≤o) (hd:d < 9007199254740992) (hd0:0 < d):9007199254740992≤o * 2 ^ 180 / d:=by
 rw [Nat.le_div_iff_mul_le hd0]
 have h1:9007199254740992 * d≤9007199254740992 * 9007199254740992:=Nat.mul_le_mul_left _ (by omega)
 have h2:9007199254740992 * 9007199254740992≤1 * 2 ^ 180:=by decide +kernel
 have h3:1 * 2 ^ 180≤o * 2 ^ 180:=Nat.mul_le_mul_right _ ho
 exact Nat.le_trans h1 (Nat.le_trans h2 h3)
theorem quo_any (a b:Nat) (ha:a < 18446744073709551616) (hb:b < 18446744073709551616) (fa:fFin a = true) (fb:fFin b = true) (a0:fK a ≠ 0) (b0:fK b ≠ 0)
  (m k n j p:Nat) (hm:m * 2 ^ k = rv (fR a)) (hn:n * 2 ^ j = rv (fR b)) (hn0:0 < n) (hq:9007199254740992≤m * 2 ^ p / n) :
  rnd (stk (m * 2 ^ p) n) ((k:Int) - j - p - 1) = qV a b:=by
 obtain ⟨α,x1,x2,x3,x4⟩:=odd_mag a ha fa a0
 obtain ⟨β,y1,y2,y3,y4⟩:=odd_mag b hb fb b0
 unfold qV qS
 rw [x1,y1,show -1074+(α:Int) - (-1074+(β:Int)) - 181 = ((α:Int) - β - 1) - (180:Nat) by omega]
 have hbig:=quo_big (fD a).natAbs (fD b).natAbs (by omega) y4 (by omega)
 generalize (fD a).natAbs = oa at *
 generalize (fD b).natAbs = ob at *
 have hp:∀ i:Nat,0 < 2 ^ i:=fun i=>Nat.two_pow_pos i
 -- more digits,then both sides times a power
 obtain ⟨s1,_,_,_⟩:=stk_step (m * 2 ^ p) n (k+β) ((k:Int) - j - p - 1) hn0 hq
 have e1:m * 2 ^ p * 2 ^ (k+β) * 2 ^ j = oa * 2 ^ (α+p+j) * 2 ^ β:=by
  rw [Nat.pow_add,show m * 2 ^ p * (2 ^ k * 2 ^ β) * 2 ^ j = (m * 2 ^ k) * (2 ^ p * 2 ^ β * 2 ^ j) by ac_rfl,hm,x2,Nat.pow_add,Nat.pow_add]
  ac_rfl
 have e2:n * 2 ^ j = ob * 2 ^ β:=by rw [hn,y2]
 have e3:stk (m * 2 ^ p * 2 ^ (k+β)) n = stk (oa * 2 ^ (α+p+j)) ob:=by
  rw [← stk_both _ n j,e1,e2,stk_both]
 rw [e3] at s1
 rw [← s1]
 have hb2:9007199254740992≤oa * 2 ^ (α+p+j) / ob:=by
  have d1:oa * 2 ^ (α+p+j) / ob = m * 2 ^ p * 2 ^ (k+β) / n:=by
   rw [← Nat.mul_div_mul_right _ ob (hp β),← e1,← e2,Nat.mul_div_mul_right _ n (hp j)]
  rw [d1]
  refine Nat.le_trans hq (Nat.div_le_div_right ?_)
  exact Nat.le_mul_of_pos_right _ (hp _)
 have:=stk_any oa ob (α+p+j) 180 ((α:Int) - β - 1) (by omega) hb2 hbig
 rw [← this]
 congr 1
 omega
theorem fdiv_none (a b:Nat) (ha:a < 18446744073709551616) (hb:b < 18446744073709551616) (h:dN a b = true):Ieee.double.div a b = none∧dV a b = 9221120237041090560:=by
 unfold Ieee.Format.div
 rcases of_decide_eq_true h with (h | h) | ⟨h1,h3⟩
 ·obtain ⟨s,f,e⟩:=read_nan a ha h
  refine ⟨by rw [e];rfl,?_⟩
  unfold dV;rw [if_pos (Or.inl h)]
 ·obtain ⟨s,f,e⟩:=read_nan b hb h
  refine ⟨?_,?_⟩
  ·rw [e];cases Ieee.double.read a <;> rfl
  ·unfold dV;rw [if_pos (Or.inr h)]
 ·refine ⟨?_,?_⟩
  ·rcases h3 with h3 | h3
   ·rw [read_inf a ha h3,read_inf b hb (by omega)];rfl
   ·obtain ⟨m,k,e,em⟩:=read_fin a ha (fin_of a (by omega) (by omega))
    obtain ⟨n,j,e2,en⟩:=read_fin b hb (fin_of b (by omega) (by omega))
    have hm:m = 0:=(mag_zero em).2 ((fK_zero a).1 h3)
    have hn:n = 0:=(mag_zero en).2 ((fK_zero b).1 (by omega))
    rw [e,e2,hm,hn];rfl
  ·unfold dV
   by_cases h4:fK a = 4 ∨ fK b = 4
   ·rw [if_pos h4]
   ·rw [if_neg h4,if_pos ⟨h1,h3⟩]
theorem fdiv_some (a b:Nat) (ha:a < 18446744073709551616) (hb:b < 18446744073709551616) (h:dN a b = false):Ieee.double.div a b = some (dV a b):=by
 have h':=of_decide_eq_false h
 have n4:¬ (fK a = 4 ∨ fK b = 4):=fun e=>h' (Or.inl e)
 have nn:¬ (fK a = fK b∧(fK a = 3 ∨ fK a = 0)):=fun e=>h' (Or.inr e)
 unfold Ieee.Format.div dV
 rw [if_neg n4,if_neg nn]
 by_cases c1:fK a = 3
 ·obtain ⟨n,j,e2,en⟩:=read_fin b hb (fin_of b (fun e=>nn ⟨by omega,Or.inl c1⟩) (by omega))
  rw [if_pos c1,read_inf a ha c1,e2]
  show some (Ieee.double.write (.infinity (fS a ^^ fS b))) = _
  rw [write_inf]
 ·obtain ⟨m,k,e,em⟩:=read_fin a ha (fin_of a c1 (by omega))
  rw [if_neg c1,e]
  by_cases c2:fK b = 3
  ·rw [if_pos (Or.inl c2),read_inf b hb c2]
   show some (Ieee.double.nearest (fS a ^^ fS b) 0 0) = _
   rw [nearest_wrd,rnd_0]
  ·obtain ⟨n,j,e2,en⟩:=read_fin b hb (fin_of b c2 (by omega))
   rw [e2]
   show Option.map Ieee.double.write (if n = 0 then if m = 0 then none else some (.infinity (fS a ^^ fS b)) else some (.number (fS a ^^ fS b) (2 * (m <<< (54+n.log2 - m.log2) / n)+(m <<< (54+n.log2 - m.log2) % n != 0).toNat) (-1074+(k:Int) - (-1074+(j:Int)) - ((54+n.log2 - m.log2:Nat):Int) - 1))) = _
   by_cases c3:fK a = 0
   ·have hm:m = 0:=(mag_zero em).2 ((fK_zero a).1 c3)
    have hn:n ≠ 0:=fun e0=>nn ⟨by rw [c3,(fK_zero b).2 ((mag_zero en).1 e0)],Or.inr c3⟩
    rw [if_pos (Or.inr c3),if_neg hn,hm,Nat.zero_shiftLeft,Nat.zero_div,Nat.zero_mod]
    show some (Ieee.double.nearest (fS a ^^ fS b) 0 _) = _
    rw [nearest_wrd,rnd_0]
   ·have hm:m ≠ 0:=fun e0=>c3 ((fK_zero a).2 ((mag_zero em).1 e0))
    have n34:¬ (fK b = 3 ∨ fK a = 0):=by omega
    rw [if_neg n34]
    by_cases c4:fK b = 0
    ·have hn:n = 0:=(mag_zero en).2 ((fK_zero b).1 c4)
     rw [if_pos c4,if_pos hn,if_neg hm,Option.map_some,write_inf]
    ·have hn:n ≠ 0:=fun e0=>c4 ((fK_zero b).2 ((mag_zero en).1 e0))
     rw [if_neg c4,if_neg hn]
     have hst:2 * (m <<< (54+n.log2 - m.log2) / n)+(m <<< (54+n.log2 - m.log2) % n != 0).toNat = stk (m * 2 ^ (54+n.log2 - m.log2)) n:=by
      rw [Nat.shiftLeft_eq]
      unfold stk
      congr 1
      split
      ·rename_i h0;rw [h0];rfl
      ·rename_i h0;simp [h0]
     rw [hst]
     show some (Ieee.double.nearest (fS a ^^ fS b) (stk (m * 2 ^ (54+n.log2 - m.log2)) n) _) = _
     rw [nearest_wrd]
     have b1:=bl_spec m hm
     have b2:=bl_spec n hn
     have l1:bl m = m.log2+1:=by unfold bl;rw [if_neg hm]
     have l2:bl n = n.log2+1:=by unfold bl;rw [if_neg hn]
     rw [l1,show m.log2+1 - 1 = m.log2 by omega] at b1
     rw [l2] at b2
     have hq:9007199254740992≤m * 2 ^ (54+n.log2 - m.log2) / n:=by
      rw [Nat.le_div_iff_mul_le (by omega)]
      have h1:9007199254740992 * n≤2 ^ 53 * 2 ^ (n.log2+1):=by rw [p53];exact Nat.mul_le_mul_left _ (by omega)
      have h2:(2:Nat) ^ 53 * 2 ^ (n.log2+1)≤2 ^ m.log2 * 2 ^ (54+n.log2 - m.log2):=by
       rw [← Nat.pow_add,← Nat.pow_add];exact pow_le2 (by omega)
      have h3:2 ^ m.log2 * 2 ^ (54+n.log2 - m.log2)≤m * 2 ^ (54+n.log2 - m.log2):=Nat.mul_le_mul_right _ b1.2.1
      omega
     have:=quo_any a b ha hb (fin_of a c1 (by omega)) (fin_of b c2 (by omega)) c3 c4 m k n j (54+n.log2 - m.log2) em en (by omega) hq
     rw [← this]
     congr 3
     omega
end Go.Proofs.YtlnphkioddknfaaGreatDoor
namespace Go.Proofs.YtlnphkioddknfaaGreatDoor
open Go.RowKit
theorem rnd_D (b:Nat) (hf:fFin b = true):rnd (fD b).natAbs (fX b) = fR b:=by
 have hr:=rnd_bits b hf
 have ho:=rnd_odd (fM b) (fE b)
 rw [fM_abs] at ho
 exact ho.1.trans hr.1
theorem rnd_rv (b:Nat) (hb:b < 18446744073709551616) (hf:fFin b = true):rnd (rv (fR b)) (-1074) = fR b:=by
 obtain ⟨d1,d2⟩:=fZ_level b hb hf
 have h:=(rnd_odd (fZ b) (-1074)).1
 rw [d1,d2,fZ_abs,rnd_D b hf] at h
 exact h.symm
theorem kind_pos (a:Nat) (fa:fFin a = true) (a0:fK a ≠ 0):fK a ≠ 3∧fK a ≠ 4∧fK a ≠ 0:=⟨(fin_kind fa).1,(fin_kind fa).2,a0⟩
theorem dV_fin (a b:Nat) (fa:fFin a = true) (fb:fFin b = true) (a0:fK a ≠ 0) (b0:fK b ≠ 0):dV a b = wrd (fS a ^^ fS b) (qV a b)∧dF a b = qF a b:=by
 obtain ⟨a3,a4,_⟩:=kind_pos a fa a0
 obtain ⟨b3,b4,_⟩:=kind_pos b fb b0
 have h1:¬ (fK a = 4 ∨ fK b = 4):=by omega
 have h2:¬ (fK a = fK b∧(fK a = 3 ∨ fK a = 0)):=by omega
 have h3:¬ (fK b = 3 ∨ fK a = 0):=by omega
 unfold dV dF
 simp only [if_neg h1,if_neg h2,if_neg a3,if_neg h3,if_neg b0,and_self]
theorem mV_fin (a b:Nat) (fa:fFin a = true) (fb:fFin b = true) (a0:fK a ≠ 0) (b0:fK b ≠ 0):mV a b = wrd (fS a ^^ fS b) (rnd (rv (fR a) * rv (fR b)) (-2148))∧mF a b = rflag (oM (fZ a * fZ b)).natAbs (oE (fZ a * fZ b) (-2148)):=by
 obtain ⟨a3,a4,_⟩:=kind_pos a fa a0
 obtain ⟨b3,b4,_⟩:=kind_pos b fb b0
 have h1:¬ (fK a = 4 ∨ fK b = 4):=by omega
 have h2:¬ (fK a = 3 ∨ fK b = 3):=by omega
 have h3:¬ (fK a = 0 ∨ fK b = 0):=by omega
 unfold mV mF
 simp only [if_neg h1,if_neg h2,if_neg h3,and_self]
end Go.Proofs.YtlnphkioddknfaaGreatDoor
namespace Go.Proofs.YtlnphkioddknfaaGreatDoor
open Go.RowKit
theorem rnd_high {v:Nat} {E:Int} (hv:v ≠ 0) (h:1024 < (bl v:Int)+E):rnd v E = 9218868437227405312∧rflag v E = 5:=by
 unfold rflag rnd
 rw [if_neg hv,if_pos h,if_neg hv,if_pos h]
 exact ⟨rfl,rfl⟩
theorem cutE_small {v k:Nat} (h:2 * v < 2 ^ k):cutE v k = 0:=by
 unfold cutE
 have h1:v / 2 ^ k = 0:=Nat.div_eq_of_lt (by omega)
 have h2:v % 2 ^ k = v:=Nat.mod_eq_of_lt (by omega)
 rw [h1,h2,if_neg (by omega)]
theorem rnd_low {v:Nat} {E:Int} (hv:v ≠ 0) (h:(bl v:Int)+E < -1074):rnd v E = 0∧rflag v E = 3:=by
 obtain ⟨b1,b2,b3⟩:=bl_spec v hv
 have hl:lastE v E = -1074:=by unfold lastE;omega
 obtain ⟨j,hj⟩:∃ j:Nat,E - -1074 = -((j:Nat):Int):=⟨(-1074 - E).toNat,by omega⟩
 have hM:rndM v E = 0:=by
  unfold rndM
  rw [hl,hj,mS_down _ _ (by omega)]
  refine cutE_small ?_
  have h1:2 ^ (bl v+1)≤2 ^ j:=Nat.pow_le_pow_right (by decide) (by omega)
  rw [Nat.pow_succ] at h1
  omega
 have hr:rnd v E = 0:=by
  rw [rnd_fin v E hv (by omega),hM,hl]
  rfl
 refine ⟨hr,?_⟩
 unfold rflag
 rw [if_neg hv,if_neg (by omega),if_neg (by rw [hl];omega),hr,if_neg (by decide),if_pos (by decide)]
def gM (r:Nat):Nat:=4503599627370496+r % 4503599627370496
theorem gM_bl (r:Nat):bl (gM r) = 53:=by
 refine bl_of (by decide) ?_ ?_
 ·rw [show (2:Nat) ^ (53 - 1) = 4503599627370496 by decide]
  unfold gM;omega
 ·rw [show (2:Nat) ^ 53 = 9007199254740992 by decide]
  unfold gM;omega
theorem gM_ne (r:Nat):gM r ≠ 0:=by unfold gM;omega
theorem gM_rv (r:Nat) (h:4503599627370496≤r):rv r = gM r * 2 ^ (r / 4503599627370496 - 1):=by
 have e:r = gM r+(r / 4503599627370496 - 1) * 4503599627370496:=by unfold gM;omega
 have:=rv_of (gM r) (r / 4503599627370496 - 1) (by unfold gM;omega) (fun _=>by unfold gM;omega)
 rwa [← e] at this
theorem scale_normal (r:Nat) (n e:Int) (h:4503599627370496≤r) (he:e = n+(r / 4503599627370496:Nat) - 1023) :
  rnd (rv r) (n - 1074) = rnd (gM r) (e - 52):=by
 rw [gM_rv r h,rnd_scale]
 congr 1
 omega
theorem scale_mid (r:Nat) (e:Int) (h1:-1022≤e) (h2:e≤1023):rnd (gM r) (e - 52) = r % 4503599627370496+(e+1023).toNat * 4503599627370496:=by
 have hb:=gM_bl r
 have hl:lastE (gM r) (e - 52) = e - 52:=by unfold lastE;rw [hb];omega
 rw [rnd_fin _ _ (gM_ne r) (by rw [hb];omega),hl]
 have hM:rndM (gM r) (e - 52) = gM r:=by
  unfold rndM
  rw [hl,show e - 52 - (e - 52) = ((0:Nat):Int) by omega,mS_up,Nat.pow_zero,Nat.mul_one]
 rw [hM,show (e - 52+1074).toNat = (e+1023).toNat - 1 by omega]
 have:1≤(e+1023).toNat:=by omega
 unfold gM
 omega
theorem scale_high (r:Nat) (e:Int) (h:1023 < e):rnd (gM r) (e - 52) = 9218868437227405312:=(rnd_high (gM_ne r) (by rw [gM_bl];omega)).1
theorem scale_low (r:Nat) (e:Int) (h:e < -1075):rnd (gM r) (e - 52) = 0:=(rnd_low (gM_ne r) (by rw [gM_bl];omega)).1
theorem pow_join (i j k:Nat) (h:i+j = k):(2:Nat) ^ i * 2 ^ j = 2 ^ k:=by rw [← Nat.pow_add,h]
theorem rnd_scale2 (v x y:Nat) (E F:Int) (h:E+x+y = F):rnd (v * 2 ^ x * 2 ^ y) E = rnd v F:=by
 rw [Nat.mul_assoc,← Nat.pow_add,rnd_scale]
 congr 1
 omega
theorem rnd_scale1 (v x:Nat) (E F:Int) (h:E+x = F):rnd (v * 2 ^ x) E = rnd v F:=by rw [rnd_scale,h]
theorem scale_sub (s:Bool) (r:Nat) (e:Int) (h1:-1075≤e) (h2:e < -1022) :
  mV (wrd s (r % 4503599627370496+(e+53+1023).toNat * 4503599627370496)) 4368491638549381120 = wrd s (rnd (gM r) (e - 52)):=by
 obtain ⟨q,hq⟩:∃ q,q = r % 4503599627370496+(e+53+1023).toNat * 4503599627370496:=⟨_,rfl⟩
 rw [← hq]
 have hq1:4503599627370496≤q:=by omega
 have hq2:q < 9218868437227405312:=by omega
 have hm:gM q = gM r:=by unfold gM;omega
 have hd:q / 4503599627370496 - 1 = (e+1075).toNat:=by omega
 have fR1:=fR_wrd s q (by omega)
 have f1:fFin (wrd s q) = true:=(fK_rungs _).2.2.2 (by rw [fR1];exact hq2)
 have k1:fK (wrd s q) ≠ 0:=fun h=>by
  have:=(fK_zero _).1 h
  rw [fR1] at this
  omega
 have fR2:fR 4368491638549381120 = 4368491638549381120:=by decide
 have f2:fFin 4368491638549381120 = true:=by decide
 have k2:fK 4368491638549381120 ≠ 0:=by decide
 have s2:fS 4368491638549381120 = false:=by decide
 obtain ⟨K,hK⟩:∃ K:Nat,K = 1021:=⟨_,rfl⟩
 have r2:rv 4368491638549381120 = 2 ^ K:=by
  have:=gM_rv 4368491638549381120 (by decide)
  rw [this,show gM 4368491638549381120 = 2 ^ 52 by decide,show 4368491638549381120 / 4503599627370496 - 1 = 969 by decide]
  exact pow_join 52 969 K (by omega)
 rw [(mV_fin _ _ f1 f2 k1 k2).1,fR1,fR2,r2,gM_rv q hq1,hm,hd,fS_wrd s q (by omega),s2,Bool.xor_false,rnd_scale2 _ _ _ _ (e - 52) (by omega)]
theorem scale_up52 (s:Bool) (r:Nat) (h0:r ≠ 0) (h:r < 4503599627370496) :
  ∃ q,mV (wrd s r) 4841369599423283200 = wrd s q∧4503599627370496≤q∧q < 9218868437227405312∧∀ n:Int,rnd (rv r) (n - 1074) = rnd (rv q) (n - 52 - 1074):=by
 obtain ⟨b1,b2,b3⟩:=bl_spec r h0
 have hb52:bl r≤52:=by
  have e52:(2:Nat) ^ 52 = 4503599627370496:=by decide
  have:=pow_lt_of (Nat.lt_of_le_of_lt b2 (by rw [e52];exact h))
  omega
 have hrv:rv r = r:=by
  have:=rv_of r 0 (by omega) (fun h=>absurd rfl h)
  simpa using this
 obtain ⟨b,hb⟩:∃ b,bl r = b+1:=⟨bl r - 1,by omega⟩
 rw [hb] at b2 b3 hb52
 have e1:(2:Nat) ^ (b+1 - 1) * 2 ^ (52 - b) = 4503599627370496:=by rw [← Nat.pow_add,show b+1 - 1+(52 - b) = 52 by omega]
 have e2:(2:Nat) ^ (b+1) * 2 ^ (52 - b) = 9007199254740992:=by rw [← Nat.pow_add,show b+1+(52 - b) = 53 by omega]
 have hp:=Nat.two_pow_pos (52 - b)
 have m1:=Nat.mul_le_mul_right (2 ^ (52 - b)) b2
 have m2:=(Nat.mul_lt_mul_right hp).2 b3
 rw [e1] at m1
 rw [e2] at m2
 obtain ⟨M,hM⟩:∃ M,M = r * 2 ^ (52 - b):=⟨_,rfl⟩
 rw [← hM] at m1 m2
 have hl:lastE r (-1022) = (b:Int) - 1074:=by unfold lastE;rw [hb];omega
 have hq:rnd r (-1022) = M+b * 4503599627370496:=by
  rw [rnd_fin r _ h0 (by rw [hb];omega),hl]
  unfold rndM
  rw [hl,show (-1022:Int) - ((b:Int) - 1074) = ((52 - b:Nat):Int) by omega,mS_up,← hM,show ((b:Int) - 1074+1074).toNat = b by omega]
 have fR1:=fR_wrd s r (by omega)
 have f1:fFin (wrd s r) = true:=(fK_rungs _).2.2.2 (by rw [fR1];omega)
 have k1:fK (wrd s r) ≠ 0:=fun h=>h0 (by have:=(fK_zero _).1 h;rwa [fR1] at this)
 have fR2:fR 4841369599423283200 = 4841369599423283200:=by decide
 have f2:fFin 4841369599423283200 = true:=by decide
 have k2:fK 4841369599423283200 ≠ 0:=by decide
 have s2:fS 4841369599423283200 = false:=by decide
 obtain ⟨K,hK⟩:∃ K:Nat,K = 1126:=⟨_,rfl⟩
 have r2:rv 4841369599423283200 = 2 ^ K:=by
  have:=gM_rv 4841369599423283200 (by decide)
  rw [this,show gM 4841369599423283200 = 2 ^ 52 by decide,show 4841369599423283200 / 4503599627370496 - 1 = 1074 by decide]
  exact pow_join 52 1074 K (by omega)
 refine ⟨M+b * 4503599627370496,?_,by omega,by omega,fun n=>?_⟩
 ·rw [(mV_fin _ _ f1 f2 k1 k2).1,fR1,fR2,r2,hrv,fS_wrd s r (by omega),s2,Bool.xor_false,rnd_scale1 _ _ _ (-1022) (by omega),hq]
 ·have hrq:rv (M+b * 4503599627370496) = M * 2 ^ b:=rv_of M b (by omega) (fun _=>m1)
  rw [hrq,hrv,hM]
  exact (rnd_scale2 r (52 - b) b _ _ (by omega)).symm
end Go.Proofs.YtlnphkioddknfaaGreatDoor
namespace Go.Proofs.YtlnphkioddknfaaGreatDoor
open Go.RowKit
def p2 (e:Int):Rat:=(2:Rat) ^ e
end Go.Proofs.YtlnphkioddknfaaGreatDoor
