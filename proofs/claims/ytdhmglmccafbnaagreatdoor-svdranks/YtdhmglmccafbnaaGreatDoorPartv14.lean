/- Part 14 of the texts. -/
import Derived.Test.YtdhmglmccafbnaaGreatDoorPartv13
namespace Go.Proofs.YtdhmglmccafbnaaGreatDoor
open Go.RowKit
theorem rv_eq0 (r:Nat):rv r = 0 ↔ r = 0:=by
 constructor
 ·intro h
  rcases Nat.eq_zero_or_pos r with e | e
  ·exact e
  ·have:=rv_lt e;rw [rv_zero] at this;omega
 ·intro h;rw [h,rv_zero]
theorem fK_zero (b:Nat):fK b = 0 ↔ fR b = 0:=by
 have h:=fR_lt b
 have hF:fF b = fR b % 4503599627370496:=by unfold fF fR;omega
 have hP:fP b = fR b / 4503599627370496:=rfl
 unfold fK
 rw [hF,hP]
 generalize fR b = r at *
 split
 ·split <;> constructor <;> intro _ <;> omega
 ·split
  ·split <;> constructor <;> intro _ <;> omega
  ·constructor <;> intro _ <;> omega
def mV (a b:Nat):Nat :=
 if fK a = 4 ∨ fK b = 4 then 9221120237041090560
 else if fK a = 3 ∨ fK b = 3 then (if fK a = 0 ∨ fK b = 0 then 9221120237041090560 else wrd (fS a ^^ fS b) 9218868437227405312)
 else wrd (fS a ^^ fS b) (rnd (rv (fR a) * rv (fR b)) (-2148))
def mF (a b:Nat):Int :=
 if fK a = 4 ∨ fK b = 4 then 0
 else if fK a = 3 ∨ fK b = 3 then (if fK a = 0 ∨ fK b = 0 then 16 else 0)
 else if fK a = 0 ∨ fK b = 0 then 0
 else rflag (oM (fZ a * fZ b)).natAbs (oE (fZ a * fZ b) (-2148))
def mN (a b:Nat):Bool:=decide ((fK a = 4 ∨ fK b = 4) ∨ ((fK a = 3 ∨ fK b = 3)∧(fK a = 0 ∨ fK b = 0)))
theorem mV_lt (a b:Nat):mV a b < 18446744073709551616:=by
 have h:=rnd_le (rv (fR a) * rv (fR b)) (-2148)
 unfold mV
 split
 ·omega
 ·split
  ·split
   ·omega
   ·exact wrd_lt _ _ (by omega)
  ·exact wrd_lt _ _ (by omega)
theorem mul_comm6 (a b:Nat):mV a b = mV b a∧mF a b = mF b a:=by
 have h1:(fK a = 4 ∨ fK b = 4) ↔ (fK b = 4 ∨ fK a = 4):=Or.comm
 have h2:(fK a = 3 ∨ fK b = 3) ↔ (fK b = 3 ∨ fK a = 3):=Or.comm
 have h3:(fK a = 0 ∨ fK b = 0) ↔ (fK b = 0 ∨ fK a = 0):=Or.comm
 unfold mV mF
 rw [Bool.xor_comm (fS b) (fS a),Nat.mul_comm (rv (fR b)),Int.mul_comm (fZ b)]
 simp only [h1,h2,h3,and_self]
theorem mag_zero {m k r:Nat} (h:m * 2 ^ k = rv r):m = 0 ↔ r = 0:=by
 have hp:0 < 2 ^ k:=Nat.two_pow_pos _
 rw [← rv_eq0 r,← h]
 constructor
 ·intro e;rw [e,Nat.zero_mul]
 ·intro e;rcases Nat.mul_eq_zero.1 e with e | e <;> omega
theorem fmul_some (a b:Nat) (ha:a < 18446744073709551616) (hb:b < 18446744073709551616) (h:mN a b = false):Ieee.double.mul a b = some (mV a b):=by
 have h':=of_decide_eq_false h
 have n4:¬ (fK a = 4 ∨ fK b = 4):=fun e=>h' (Or.inl e)
 have n3:(fK a = 3 ∨ fK b = 3)→¬ (fK a = 0 ∨ fK b = 0):=fun e e2=>h' (Or.inr ⟨e,e2⟩)
 unfold Ieee.Format.mul mV
 rw [if_neg n4]
 by_cases c1:fK a = 3
 ·rw [if_pos (Or.inl c1),if_neg (n3 (Or.inl c1)),read_inf a ha c1]
  by_cases c2:fK b = 3
  ·rw [read_inf b hb c2]
   show some (Ieee.double.write (.infinity (fS a ^^ fS b))) = _
   rw [write_inf]
  ·obtain ⟨m,k,e,em⟩:=read_fin b hb (fin_of b c2 (by omega))
   have hm:m ≠ 0:=fun e0=>n3 (Or.inl c1) (Or.inr ((fK_zero b).2 ((mag_zero em).1 e0)))
   rw [e]
   show Option.map Ieee.double.write (if m = 0 then none else some (.infinity (fS a ^^ fS b))) = _
   rw [if_neg hm,Option.map_some,write_inf]
 ·obtain ⟨m,k,e,em⟩:=read_fin a ha (fin_of a c1 (by omega))
  rw [e]
  by_cases c2:fK b = 3
  ·have hm:m ≠ 0:=fun e0=>n3 (Or.inr c2) (Or.inl ((fK_zero a).2 ((mag_zero em).1 e0)))
   rw [if_pos (Or.inr c2),if_neg (n3 (Or.inr c2)),read_inf b hb c2]
   show Option.map Ieee.double.write (if m = 0 then none else some (.infinity (fS b ^^ fS a))) = _
   rw [if_neg hm,Option.map_some,write_inf,Bool.xor_comm]
  ·obtain ⟨m2,k2,e2,em2⟩:=read_fin b hb (fin_of b c2 (by omega))
   rw [if_neg (by omega),e2]
   show some (Ieee.double.nearest (fS a ^^ fS b) (m * m2) (-1074+(k:Int)+(-1074+(k2:Int)))) = _
   rw [nearest_wrd]
   congr 2
   rw [← em,← em2,show m * 2 ^ k * (m2 * 2 ^ k2) = m * m2 * 2 ^ (k+k2) by rw [Nat.pow_add];ac_rfl,rnd_scale]
   congr 1
   omega
theorem odd_mag (b:Nat) (hb:b < 18446744073709551616) (hf:fFin b = true) (h0:fK b ≠ 0) :
  ∃ β:Nat,fX b = -1074+(β:Int)∧rv (fR b) = (fD b).natAbs * 2 ^ β∧(fD b).natAbs % 2 = 1∧(fD b).natAbs < 9007199254740992:=by
 obtain ⟨d1,d2⟩:=fZ_level b hb hf
 have hr:fR b ≠ 0:=fun e=>h0 ((fK_zero b).2 e)
 have hz:fZ b ≠ 0:=fun e=>hr ((rv_eq0 _).1 (by rw [← fZ_abs,e];rfl))
 have h1:=oM_abs (fZ b) hz
 have h2:=oE_ne (fZ b) (-1074) hz
 refine ⟨tz (fZ b).natAbs,by rw [← d2,h2],by rw [← fZ_abs,h1,d1];congr 2;rw [← d1,← h1],?_,?_⟩
 ·have:=(oM_ne (fZ b) hz).2
  rw [d1] at this
  omega
 ·have:(oM (fM b)).natAbs≤(fM b).natAbs:=oM_le _
  have h3:=fM_lt b
  show (oM (fM b)).natAbs < _
  omega
def qS (a b:Nat):Nat:=stk ((fD a).natAbs * 2 ^ 180) (fD b).natAbs
def qV (a b:Nat):Nat:=rnd (qS a b) (fX a - fX b - 181)
def qF (a b:Nat):Int:=rflag (oM (qS a b:Nat)).natAbs (oE (qS a b:Nat) (fX a - fX b - 181))
def dV (a b:Nat):Nat :=
 if fK a = 4 ∨ fK b = 4 then 9221120237041090560
 else if fK a = fK b∧(fK a = 3 ∨ fK a = 0) then 9221120237041090560
 else if fK a = 3 then wrd (fS a ^^ fS b) 9218868437227405312
 else if fK b = 3 ∨ fK a = 0 then wrd (fS a ^^ fS b) 0
 else if fK b = 0 then wrd (fS a ^^ fS b) 9218868437227405312
 else wrd (fS a ^^ fS b) (qV a b)
def dF (a b:Nat):Int :=
 if fK a = 4 ∨ fK b = 4 then 0
 else if fK a = fK b∧(fK a = 3 ∨ fK a = 0) then 16
 else if fK a = 3 then 0
 else if fK b = 3 ∨ fK a = 0 then 0
 else if fK b = 0 then 8
 else qF a b
theorem dV_lt (a b:Nat):dV a b < 18446744073709551616:=by
 have h:qV a b≤9218868437227405312:=rnd_le _ _
 have i1:=wrd_lt (fS a ^^ fS b) 9218868437227405312 (by decide)
 have i2:=wrd_lt (fS a ^^ fS b) 0 (by decide)
 have i3:=wrd_lt (fS a ^^ fS b) (qV a b) (by omega)
 unfold dV
 repeat' split
 all_goals omega
theorem quo_big (o d:Nat) (ho:1≤o) (hd:d < 9007199254740992) (hd0:0 < d):9007199254740992≤o * 2 ^ 180 / d:=by
 rw [Nat.le_div_iff_mul_le hd0]
 have h1:9007199254740992 * d≤9007199254740992 * 9007199254740992:=Nat.mul_le_mul_left _ (by omega)
 have h2:9007199254740992 * 9007199254740992≤1 * 2 ^ 180:=by decide +kernel
 have h3:1 * 2 ^ 180≤o * 2 ^ 180:=Nat.mul_le_mul_right _ ho
 exact Nat.le_trans h1 (Nat.le_trans h2 h3)
end Go.Proofs.YtdhmglmccafbnaaGreatDoor
namespace Go.Proofs.YtdhmglmccafbnaaGreatDoor
open Go.RowKit
theorem rnd_D (b:Nat) (hf:fFin b = true):rnd (fD b).natAbs (fX b) = fR b:=by
 have hr:=rnd_bits b hf
 have ho:=rnd_odd (fM b) (fE b)
 rw [fM_abs] at ho
 exact ho.1.trans hr.1
theorem rnd_rv (b:Nat) (hb:b < 18446744073709551616) (hf:fFin b = true):rnd (rv (fR b)) (-1074) = fR b:=by
 obtain ⟨d1,d2⟩:=fZ_level b hb hf
 have h:=(rnd_odd (fZ b) (-1074)).1
 rw [d1,d2,fZ_abs,rnd_D b hf] at h
 exact h.symm
theorem kind_pos (a:Nat) (fa:fFin a = true) (a0:fK a ≠ 0):fK a ≠ 3∧fK a ≠ 4∧fK a ≠ 0:=⟨(fin_kind fa).1,(fin_kind fa).2,a0⟩
theorem dV_fin (a b:Nat) (fa:fFin a = true) (fb:fFin b = true) (a0:fK a ≠ 0) (b0:fK b ≠ 0):dV a b = wrd (fS a ^^ fS b) (qV a b)∧dF a b = qF a b:=by
 obtain ⟨a3,a4,_⟩:=kind_pos a fa a0
 obtain ⟨b3,b4,_⟩:=kind_pos b fb b0
 have h1:¬ (fK a = 4 ∨ fK b = 4):=by omega
 have h2:¬ (fK a = fK b∧(fK a = 3 ∨ fK a = 0)):=by omega
 have h3:¬ (fK b = 3 ∨ fK a = 0):=by omega
 unfold dV dF
 simp only [if_neg h1,if_neg h2,if_neg a3,if_neg h3,if_neg b0,and_self]
theorem mV_fin (a b:Nat) (fa:fFin a = true) (fb:fFin b = true) (a0:fK a ≠ 0) (b0:fK b ≠ 0):mV a b = wrd (fS a ^^ fS b) (rnd (rv (fR a) * rv (fR b)) (-2148))∧mF a b = rflag (oM (fZ a * fZ b)).natAbs (oE (fZ a * fZ b) (-2148)):=by
 obtain ⟨a3,a4,_⟩:=kind_pos a fa a0
 obtain ⟨b3,b4,_⟩:=kind_pos b fb b0
 have h1:¬ (fK a = 4 ∨ fK b = 4):=by omega
 have h2:¬ (fK a = 3 ∨ fK b = 3):=by omega
 have h3:¬ (fK a = 0 ∨ fK b = 0):=by omega
 unfold mV mF
 simp only [if_neg h1,if_neg h2,if_neg h3,and_self]
end Go.Proofs.YtdhmglmccafbnaaGreatDoor
namespace Go.Proofs.YtdhmglmccafbnaaGreatDoor
open Go.RowKit
theorem rnd_high {v:Nat} {E:Int} (hv:v ≠ 0) (h:1024 < (bl v:Int)+E):rnd v E = 9218868437227405312∧rflag v E = 5:=by
 unfold rflag rnd
 rw [if_neg hv,if_pos h,if_neg hv,if_pos h]
 exact ⟨rfl,rfl⟩
theorem cutE_small {v k:Nat} (h:2 * v < 2 ^ k):cutE v k = 0:=by
 unfold cutE
 have h1:v / 2 ^ k = 0:=Nat.div_eq_of_lt (by omega)
 have h2:v % 2 ^ k = v:=Nat.mod_eq_of_lt (by omega)
 rw [h1,h2,if_neg (by omega)]
theorem rnd_low {v:Nat} {E:Int} (hv:v ≠ 0) (h:(bl v:Int)+E < -1074):rnd v E = 0∧rflag v E = 3:=by
 obtain ⟨b1,b2,b3⟩:=bl_spec v hv
 have hl:lastE v E = -1074:=by unfold lastE;omega
 obtain ⟨j,hj⟩:∃ j:Nat,E - -1074 = -((j:Nat):Int):=⟨(-1074 - E).toNat,by omega⟩
 have hM:rndM v E = 0:=by
  unfold rndM
  rw [hl,hj,mS_down _ _ (by omega)]
  refine cutE_small ?_
  have h1:2 ^ (bl v+1)≤2 ^ j:=Nat.pow_le_pow_right (by decide) (by omega)
  rw [Nat.pow_succ] at h1
  omega
 have hr:rnd v E = 0:=by
  rw [rnd_fin v E hv (by omega),hM,hl]
  rfl
 refine ⟨hr,?_⟩
 unfold rflag
 rw [if_neg hv,if_neg (by omega),if_neg (by rw [hl];omega),hr,if_neg (by decide),if_pos (by decide)]
def gM (r:Nat):Nat:=4503599627370496+r % 4503599627370496
theorem gM_bl (r:Nat):bl (gM r) = 53:=by
 refine bl_of (by decide) ?_ ?_
 ·rw [show (2:Nat) ^ (53 - 1) = 4503599627370496 by decide]
  unfold gM;omega
 ·rw [show (2:Nat) ^ 53 = 9007199254740992 by decide]
  unfold gM;omega
theorem gM_ne (r:Nat):gM r ≠ 0:=by unfold gM;omega
theorem gM_rv (r:Nat) (h:4503599627370496≤r):rv r = gM r * 2 ^ (r / 4503599627370496 - 1):=by
 have e:r = gM r+(r / 4503599627370496 - 1) * 4503599627370496:=by unfold gM;omega
 have:=rv_of (gM r) (r / 4503599627370496 - 1) (by unfold gM;omega) (fun _=>by unfold gM;omega)
 rwa [← e] at this
theorem scale_normal (r:Nat) (n e:Int) (h:4503599627370496≤r) (he:e = n+(r / 4503599627370496:Nat) - 1023) :
  rnd (rv r) (n - 1074) = rnd (gM r) (e - 52):=by
 rw [gM_rv r h,rnd_scale]
 congr 1
 omega
theorem scale_mid (r:Nat) (e:Int) (h1:-1022≤e) (h2:e≤1023):rnd (gM r) (e - 52) = r % 4503599627370496+(e+1023).toNat * 4503599627370496:=by
 have hb:=gM_bl r
 have hl:lastE (gM r) (e - 52) = e - 52:=by unfold lastE;rw [hb];omega
 rw [rnd_fin _ _ (gM_ne r) (by rw [hb];omega),hl]
 have hM:rndM (gM r) (e - 52) = gM r:=by
  unfold rndM
  rw [hl,show e - 52 - (e - 52) = ((0:Nat):Int) by omega,mS_up,Nat.pow_zero,Nat.mul_one]
 rw [hM,show (e - 52+1074).toNat = (e+1023).toNat - 1 by omega]
 have:1≤(e+1023).toNat:=by omega
 unfold gM
 omega
theorem scale_high (r:Nat) (e:Int) (h:1023 < e):rnd (gM r) (e - 52) = 9218868437227405312:=(rnd_high (gM_ne r) (by rw [gM_bl];omega)).1
theorem scale_low (r:Nat) (e:Int) (h:e < -1075):rnd (gM r) (e - 52) = 0:=(rnd_low (gM_ne r) (by rw [gM_bl];omega)).1
theorem pow_join (i j k:Nat) (h:i+j = k):(2:Nat) ^ i * 2 ^ j = 2 ^ k:=by rw [← Nat.pow_add,h]
theorem rnd_scale2 (v x y:Nat) (E F:Int) (h:E+x+y = F):rnd (v * 2 ^ x * 2 ^ y) E = rnd v F:=by
 rw [Nat.mul_assoc,← Nat.pow_add,rnd_scale]
 congr 1
 omega
theorem rnd_scale1 (v x:Nat) (E F:Int) (h:E+x = F):rnd (v * 2 ^ x) E = rnd v F:=by rw [rnd_scale,h]
theorem scale_sub (s:Bool) (r:Nat) (e:Int) (h1:-1075≤e) (h2:e < -1022) :
  mV (wrd s (r % 4503599627370496+(e+53+1023).toNat * 4503599627370496)) 4368491638549381120 = wrd s (rnd (gM r) (e - 52)):=by
 obtain ⟨q,hq⟩:∃ q,q = r % 4503599627370496+(e+53+1023).toNat * 4503599627370496:=⟨_,rfl⟩
 rw [← hq]
 have hq1:4503599627370496≤q:=by omega
 have hq2:q < 9218868437227405312:=by omega
 have hm:gM q = gM r:=by unfold gM;omega
 have hd:q / 4503599627370496 - 1 = (e+1075).toNat:=by omega
 have fR1:=fR_wrd s q (by omega)
 have f1:fFin (wrd s q) = true:=(fK_rungs _).2.2.2 (by rw [fR1];exact hq2)
 have k1:fK (wrd s q) ≠ 0:=fun h=>by
  have:=(fK_zero _).1 h
  rw [fR1] at this
  omega
 have fR2:fR 4368491638549381120 = 4368491638549381120:=by decide
 have f2:fFin 4368491638549381120 = true:=by decide
 have k2:fK 4368491638549381120 ≠ 0:=by decide
 have s2:fS 4368491638549381120 = false:=by decide
 obtain ⟨K,hK⟩:∃ K:Nat,K = 1021:=⟨_,rfl⟩
 have r2:rv 4368491638549381120 = 2 ^ K:=by
  have:=gM_rv 4368491638549381120 (by decide)
  rw [this,show gM 4368491638549381120 = 2 ^ 52 by decide,show 4368491638549381120 / 4503599627370496 - 1 = 969 by decide]
  exact pow_join 52 969 K (by omega)
 rw [(mV_fin _ _ f1 f2 k1 k2).1,fR1,fR2,r2,gM_rv q hq1,hm,hd,fS_wrd s q (by omega),s2,Bool.xor_false,rnd_scale2 _ _ _ _ (e - 52) (by omega)]
theorem scale_up52 (s:Bool) (r:Nat) (h0:r ≠ 0) (h:r < 4503599627370496) :
  ∃ q,mV (wrd s r) 4841369599423283200 = wrd s q∧4503599627370496≤q∧q < 9218868437227405312∧∀ n:Int,rnd (rv r) (n - 1074) = rnd (rv q) (n - 52 - 1074):=by
 obtain ⟨b1,b2,b3⟩:=bl_spec r h0
 have hb52:bl r≤52:=by
  have e52:(2:Nat) ^ 52 = 4503599627370496:=by decide
  have:=pow_lt_of (Nat.lt_of_le_of_lt b2 (by rw [e52];exact h))
  omega
 have hrv:rv r = r:=by
  have:=rv_of r 0 (by omega) (fun h=>absurd rfl h)
  simpa using this
 obtain ⟨b,hb⟩:∃ b,bl r = b+1:=⟨bl r - 1,by omega⟩
 rw [hb] at b2 b3 hb52
 have e1:(2:Nat) ^ (b+1 - 1) * 2 ^ (52 - b) = 4503599627370496:=by rw [← Nat.pow_add,show b+1 - 1+(52 - b) = 52 by omega]
 have e2:(2:Nat) ^ (b+1) * 2 ^ (52 - b) = 9007199254740992:=by rw [← Nat.pow_add,show b+1+(52 - b) = 53 by omega]
 have hp:=Nat.two_pow_pos (52 - b)
 have m1:=Nat.mul_le_mul_right (2 ^ (52 - b)) b2
 have m2:=(Nat.mul_lt_mul_right hp).2 b3
 rw [e1] at m1
 rw [e2] at m2
 obtain ⟨M,hM⟩:∃ M,M = r * 2 ^ (52 - b):=⟨_,rfl⟩
 rw [← hM] at m1 m2
 have hl:lastE r (-1022) = (b:Int) - 1074:=by unfold lastE;rw [hb];omega
 have hq:rnd r (-1022) = M+b * 4503599627370496:=by
  rw [rnd_fin r _ h0 (by rw [hb];omega),hl]
  unfold rndM
  rw [hl,show (-1022:Int) - ((b:Int) - 1074) = ((52 - b:Nat):Int) by omega,mS_up,← hM,show ((b:Int) - 1074+1074).toNat = b by omega]
 have fR1:=fR_wrd s r (by omega)
 have f1:fFin (wrd s r) = true:=(fK_rungs _).2.2.2 (by rw [fR1];omega)
 have k1:fK (wrd s r) ≠ 0:=fun h=>h0 (by have:=(fK_zero _).1 h;rwa [fR1] at this)
 have fR2:fR 4841369599423283200 = 4841369599423283200:=by decide
 have f2:fFin 4841369599423283200 = true:=by decide
 have k2:fK 4841369599423283200 ≠ 0:=by decide
 have s2:fS 4841369599423283200 = false:=by decide
 obtain ⟨K,hK⟩:∃ K:Nat,K = 1126:=⟨_,rfl⟩
 have r2:rv 4841369599423283200 = 2 ^ K:=by
  have:=gM_rv 4841369599423283200 (by decide)
  rw [this,show gM 4841369599423283200 = 2 ^ 52 by decide,show 4841369599423283200 / 4503599627370496 - 1 = 1074 by decide]
  exact pow_join 52 1074 K (by omega)
 refine ⟨M+b * 4503599627370496,?_,by omega,by omega,fun n=>?_⟩
 ·rw [(mV_fin _ _ f1 f2 k1 k2).1,fR1,fR2,r2,hrv,fS_wrd s r (by omega),s2,Bool.xor_false,rnd_scale1 _ _ _ (-1022) (by omega),hq]
 ·have hrq:rv (M+b * 4503599627370496) = M * 2 ^ b:=rv_of M b (by omega) (fun _=>m1)
  rw [hrq,hrv,hM]
  exact (rnd_scale2 r (52 - b) b _ _ (by omega)).symm
end Go.Proofs.YtdhmglmccafbnaaGreatDoor
namespace Go.Proofs.YtdhmglmccafbnaaGreatDoor
open Go.RowKit
def p2 (e:Int):Rat:=(2:Rat) ^ e
end Go.Proofs.YtdhmglmccafbnaaGreatDoor
namespace Go.Proofs.YtdhmglmccafbnaaGreatDoor
def isq:Nat→Nat
 | 0=>0
 | n+1=>if (isq n+1) * (isq n+1)≤n+1 then isq n+1 else isq n
theorem sq_succ (m:Nat):(m+1) * (m+1) = m * m+2 * m+1:=by rw [Nat.add_mul,Nat.mul_add];omega
theorem sq_le {a b:Nat} (h:a≤b):a * a≤b * b:=Nat.mul_le_mul h h
theorem sq_lt {a b:Nat} (h:a < b):a * a < b * b:=Nat.mul_lt_mul_of_lt_of_le h (Nat.le_of_lt h) (by omega)
theorem sq_lt_iff {a b:Nat}:a * a < b * b ↔ a < b:=by
 constructor
 ·intro h
  rcases Nat.lt_or_ge a b with h1 | h1
  ·exact h1
  ·have:=sq_le h1;omega
 ·exact sq_lt
theorem isq_spec (n:Nat):isq n * isq n≤n∧n < (isq n+1) * (isq n+1):=by
 induction n with
 | zero=>exact ⟨Nat.le_refl _,by decide⟩
 | succ n ih =>
  unfold isq
  obtain ⟨h1,h2⟩:=ih
  have e1:=sq_succ (isq n)
  have e2:=sq_succ (isq n+1)
  split
  ·rename_i h
   exact ⟨h,by omega⟩
  ·rename_i h
   exact ⟨by omega,by omega⟩
theorem isq_unique {n m:Nat} (h1:m * m≤n) (h2:n < (m+1) * (m+1)):isq n = m:=by
 obtain ⟨g1,g2⟩:=isq_spec n
 have a1:isq n < m+1:=sq_lt_iff.1 (by omega)
 have a2:m < isq n+1:=sq_lt_iff.1 (by omega)
 omega
theorem isq_mono {n m:Nat} (h:n≤m):isq n≤isq m:=by
 obtain ⟨g1,g2⟩:=isq_spec n
 obtain ⟨k1,k2⟩:=isq_spec m
 have:isq n < isq m+1:=sq_lt_iff.1 (by omega)
 omega
theorem sq_mul (a p:Nat):a * p * (a * p) = a * a * (p * p):=by ac_rfl
theorem isq_scale (N p:Nat) (hp:0 < p):isq (N * (p * p)) / p = isq N:=by
 obtain ⟨g1,g2⟩:=isq_spec N
 obtain ⟨k1,k2⟩:=isq_spec (N * (p * p))
 have hpp:0 < p * p:=Nat.mul_pos hp hp
 have a1:isq N * p < isq (N * (p * p))+1:=by
  apply sq_lt_iff.1
  rw [sq_mul]
  have:isq N * isq N * (p * p)≤N * (p * p):=Nat.mul_le_mul_right _ g1
  omega
 have a2:isq (N * (p * p)) < (isq N+1) * p:=by
  apply sq_lt_iff.1
  rw [sq_mul]
  have:N * (p * p) < (isq N+1) * (isq N+1) * (p * p):=(Nat.mul_lt_mul_right hpp).2 g2
  omega
 have b1:isq N≤isq (N * (p * p)) / p:=(Nat.le_div_iff_mul_le hp).2 (by omega)
 have b2:isq (N * (p * p)) / p < isq N+1:=(Nat.div_lt_iff_lt_mul hp).2 a2
 omega
def rS (N:Nat):Nat:=2 * isq N+(if isq N * isq N = N then 0 else 1)
def cutR (N k:Nat):Nat:=isq N / 2 ^ k+(if (2 * (isq N / 2 ^ k)+1) * 2 ^ k * ((2 * (isq N / 2 ^ k)+1) * 2 ^ k) < 4 * N ∨ ((2 * (isq N / 2 ^ k)+1) * 2 ^ k * ((2 * (isq N / 2 ^ k)+1) * 2 ^ k) = 4 * N∧isq N / 2 ^ k % 2 = 1) then 1 else 0)
theorem cutR_scale (N k i:Nat):cutR (N * (2 ^ i * 2 ^ i)) (k+i) = cutR N k:=by
 have hp:0 < 2 ^ i:=Nat.two_pow_pos _
 have hpp:0 < 2 ^ i * 2 ^ i:=Nat.mul_pos hp hp
 have e:isq (N * (2 ^ i * 2 ^ i)) / 2 ^ (k+i) = isq N / 2 ^ k:=by
  rw [Nat.add_comm k i,Nat.pow_add,← Nat.div_div_eq_div_mul,isq_scale N _ hp]
 unfold cutR
 rw [e]
 generalize isq N / 2 ^ k = m
 have s1:(2 * m+1) * 2 ^ (k+i) * ((2 * m+1) * 2 ^ (k+i)) = (2 * m+1) * 2 ^ k * ((2 * m+1) * 2 ^ k) * (2 ^ i * 2 ^ i):=by
  rw [Nat.pow_add];ac_rfl
 have s2:4 * (N * (2 ^ i * 2 ^ i)) = 4 * N * (2 ^ i * 2 ^ i):=by ac_rfl
 rw [s1,s2]
 have c1:((2 * m+1) * 2 ^ k * ((2 * m+1) * 2 ^ k) * (2 ^ i * 2 ^ i) < 4 * N * (2 ^ i * 2 ^ i)) ↔ (2 * m+1) * 2 ^ k * ((2 * m+1) * 2 ^ k) < 4 * N:=Nat.mul_lt_mul_right hpp
 have c2:((2 * m+1) * 2 ^ k * ((2 * m+1) * 2 ^ k) * (2 ^ i * 2 ^ i) = 4 * N * (2 ^ i * 2 ^ i)) ↔ (2 * m+1) * 2 ^ k * ((2 * m+1) * 2 ^ k) = 4 * N :=
  ⟨fun h=>Nat.eq_of_mul_eq_mul_right hpp h,fun h=>by rw [h]⟩
 simp only [c1,c2]
theorem rS_cut (N k:Nat) (hk:1≤k):cutE (rS N) (k+1) = cutR N k:=by
 obtain ⟨j,rfl⟩:∃ j,k = j+1:=⟨k - 1,by omega⟩
 obtain ⟨n1,n2⟩:=isq_spec N
 have hg:0 < 2 ^ j:=Nat.two_pow_pos _
 have e1:(2:Nat) ^ (j+1) = 2 * 2 ^ j:=by rw [Nat.pow_succ,Nat.mul_comm]
 have e2:(2:Nat) ^ (j+1+1) = 2 * (2 * 2 ^ j):=by rw [Nat.pow_succ,e1,Nat.mul_comm]
 have ht:(if isq N * isq N = N then 0 else 1)≤1:=by split <;> omega
 have htz:(if isq N * isq N = N then 0 else 1) = 0 ↔ isq N * isq N = N:=by split <;> simp_all
 unfold cutE cutR rS
 rw [e2,e1]
 generalize (2:Nat) ^ j = g at *
 generalize (if isq N * isq N = N then 0 else 1) = t at *
 generalize isq N = q at *
 have hq:=Nat.div_add_mod q (2 * g)
 have ha:=Nat.mod_lt q (show 0 < 2 * g by omega)
 generalize hA:q % (2 * g) = a at *
 generalize hQ:q / (2 * g) = b at *
 have s1:(2 * q+t) / (2 * (2 * g)) = b:=by
  rw [← hq,Nat.mul_add,← Nat.mul_assoc 2 (2 * g) b,Nat.add_assoc]
  rw [Nat.mul_add_div (by omega),Nat.div_eq_of_lt (by omega),Nat.add_zero]
 have s2:(2 * q+t) % (2 * (2 * g)) = 2 * a+t:=by
  rw [← hq,Nat.mul_add,← Nat.mul_assoc 2 (2 * g) b,Nat.add_assoc,Nat.mul_add_mod,Nat.mod_eq_of_lt (by omega)]
 rw [s1,s2]
 congr 1
 -- half between two,as a square
 obtain ⟨c,hc⟩:∃ c,c = 2 * g * b+g:=⟨_,rfl⟩
 have hM:(2 * b+1) * (2 * g) * ((2 * b+1) * (2 * g)) = 4 * (c * c):=by
  have:(2 * b+1) * (2 * g) = 2 * c:=by rw [hc,Nat.add_mul,Nat.one_mul,Nat.mul_add];ac_rfl
  rw [this,show (4:Nat) = 2 * 2 by decide]
  ac_rfl
 rw [hM]
 clear hM hQ hA s1 s2
 rcases Nat.lt_trichotomy a g with h | h | h
 ·have h1:(q+1) * (q+1)≤c * c:=sq_le (by omega)
  rw [if_neg (by omega),if_neg (by omega)]
 ·have h1:c = q:=by omega
  subst h1
  by_cases h0:c * c = N
  ·have:=htz.2 h0
   by_cases hb:b % 2 = 1
   ·rw [if_pos (Or.inr ⟨by omega,hb⟩),if_pos (Or.inr ⟨by omega,hb⟩)]
   ·rw [if_neg (by omega),if_neg (by omega)]
  ·have:t ≠ 0:=fun e=>h0 (htz.1 e)
   rw [if_pos (Or.inl (by omega)),if_pos (Or.inl (by omega))]
 ·have h1:c * c < q * q:=sq_lt (by omega)
  rw [if_pos (Or.inl (by omega)),if_pos (Or.inl (by omega))]
theorem rS_bl (N i:Nat) (hq:0 < isq N):bl (rS (N * (2 ^ i * 2 ^ i))) = bl (rS N)+i:=by
 have hp:0 < 2 ^ i:=Nat.two_pow_pos _
 have hs:rS N ≠ 0:=by unfold rS;omega
 obtain ⟨b1,b2,b3⟩:=bl_spec (rS N) hs
 have h1:2≤rS N:=by unfold rS;omega
 have hb2:2≤bl (rS N):=by
  rcases Nat.lt_or_ge (bl (rS N)) 2 with h | h
  ·have:bl (rS N) = 1:=by omega
   rw [this] at b3;omega
  ·exact h
 obtain ⟨c,hc⟩:∃ c,bl (rS N) = c+2:=⟨bl (rS N) - 2,by omega⟩
 rw [hc] at b2 b3 ⊢
 have ht:(if isq N * isq N = N then 0 else 1)≤1:=by split <;> omega
 have q3:2 ^ c≤isq N:=by
  rw [show c+2 - 1 = c+1 by omega,Nat.pow_succ] at b2
  unfold rS at b2
  omega
 have q2:isq N < 2 ^ (c+1):=by
  rw [Nat.pow_succ] at b3
  unfold rS at b3
  omega
 have hd:=isq_scale N (2 ^ i) hp
 have m1:2 ^ (c+i)≤isq (N * (2 ^ i * 2 ^ i)):=by
  rw [Nat.pow_add,← Nat.le_div_iff_mul_le hp,hd];exact q3
 have m2:isq (N * (2 ^ i * 2 ^ i)) < 2 ^ (c+1+i):=by
  rw [Nat.pow_add,← Nat.div_lt_iff_lt_mul hp,hd];exact q2
 refine bl_of (by omega) ?_ ?_
 ·rw [show c+2+i - 1 = c+i+1 by omega,Nat.pow_succ]
  unfold rS
  omega
 ·rw [show c+2+i = c+1+i+1 by omega,Nat.pow_succ]
  unfold rS
  have ht:(if isq (N * (2 ^ i * 2 ^ i)) * isq (N * (2 ^ i * 2 ^ i)) = N * (2 ^ i * 2 ^ i) then 0 else 1)≤1:=by split <;> omega
  omega
theorem rS_big {N:Nat} (hq:9007199254740992≤isq N):55≤bl (rS N):=by
 have hs:rS N ≠ 0:=by unfold rS;omega
 obtain ⟨b1,b2,b3⟩:=bl_spec (rS N) hs
 have h:2 ^ 54≤rS N:=by
  have:(2:Nat) ^ 54 = 2 * 9007199254740992:=by decide
  rw [this];unfold rS;omega
 have:=pow_lt_of (Nat.lt_of_le_of_lt h b3)
 omega
theorem rS_step (N i:Nat) (E:Int) (hq:9007199254740992≤isq N) :
  rnd (rS (N * (2 ^ i * 2 ^ i))) (E - i) = rnd (rS N) E∧lastE (rS (N * (2 ^ i * 2 ^ i))) (E - i) = lastE (rS N) E∧(bl (rS (N * (2 ^ i * 2 ^ i))):Int)+(E - i) = (bl (rS N):Int)+E∧E+2≤lastE (rS N) E:=by
 have hb:=rS_bl N i (by omega)
 have h55:=rS_big hq
 have hs:rS N ≠ 0:=by unfold rS;omega
 have hs':rS (N * (2 ^ i * 2 ^ i)) ≠ 0:=fun h=>by
  rw [h] at hb
  have:bl 0 = 0:=rfl
  omega
 have hl:lastE (rS (N * (2 ^ i * 2 ^ i))) (E - i) = lastE (rS N) E:=by unfold lastE;rw [hb];omega
 have hbE:(bl (rS (N * (2 ^ i * 2 ^ i))):Int)+(E - i) = (bl (rS N):Int)+E:=by rw [hb];omega
 have h2:E+2≤lastE (rS N) E:=by have:=(lastE_ge (rS N) E).2.1;omega
 refine ⟨?_,hl,hbE,h2⟩
 have hM:rndM (rS (N * (2 ^ i * 2 ^ i))) (E - i) = rndM (rS N) E:=by
  unfold rndM
  rw [hl]
  obtain ⟨k,hk⟩:∃ k:Nat,lastE (rS N) E = E+k+1∧1≤k:=⟨(lastE (rS N) E - E - 1).toNat,by omega,by omega⟩
  rw [show E - i - lastE (rS N) E = -((k+i+1:Nat):Int) by omega,show E - lastE (rS N) E = -((k+1:Nat):Int) by omega]
  rw [mS_down _ _ (by omega),mS_down _ _ (by omega),rS_cut _ _ (by omega),rS_cut _ _ (by omega)]
  exact cutR_scale _ _ _
 unfold rnd
 rw [if_neg hs,if_neg hs',hbE,hM,hl]
theorem isq_sq (N i:Nat):isq (N * (2 ^ i * 2 ^ i)) * isq (N * (2 ^ i * 2 ^ i)) = N * (2 ^ i * 2 ^ i) ↔ isq N * isq N = N:=by
 have hp:0 < 2 ^ i:=Nat.two_pow_pos _
 have hpp:0 < 2 ^ i * 2 ^ i:=Nat.mul_pos hp hp
 constructor
 ·intro h
  have hd:=isq_scale N (2 ^ i) hp
  generalize hR:isq (N * (2 ^ i * 2 ^ i)) = R at *
  -- 2^i goes into R,since its square goes into R's
  have dv:∀ (n a:Nat),(2 ^ n * 2 ^ n) ∣ a * a→2 ^ n ∣ a:=by
   intro n
   induction n with
   | zero=>intro a _;simp
   | succ n ih =>
    intro a ha
    have h2:2 ∣ a * a:=Nat.dvd_trans ⟨2 ^ n * 2 ^ (n+1),by rw [Nat.pow_succ];ac_rfl⟩ ha
    have h3:a % 2 = 0:=by
     rcases Nat.mod_two_eq_zero_or_one a with h | h
     ·exact h
     ·exfalso
      have:a * a % 2 = 1:=by rw [Nat.mul_mod,h]
      omega
    obtain ⟨b,rfl⟩:∃ b,a = 2 * b:=⟨a / 2,by omega⟩
    have h4:2 ^ n * 2 ^ n ∣ b * b:=by
     obtain ⟨c,hc⟩:=ha
     refine ⟨c,?_⟩
     have:4 * (b * b) = 4 * (2 ^ n * 2 ^ n * c):=by
      have e1:2 * b * (2 * b) = 4 * (b * b):=by rw [show (4:Nat) = 2 * 2 by decide];ac_rfl
      have e2:2 ^ (n+1) * 2 ^ (n+1) * c = 4 * (2 ^ n * 2 ^ n * c):=by rw [Nat.pow_succ,show (4:Nat) = 2 * 2 by decide];ac_rfl
      rw [← e1,hc,e2]
     omega
    obtain ⟨d,hd⟩:=ih b h4
    exact ⟨d,by rw [hd,Nat.pow_succ];ac_rfl⟩
  obtain ⟨c,hc⟩:=dv i R ⟨N,by rw [h];ac_rfl⟩
  rw [hc,Nat.mul_div_cancel_left c hp] at hd
  rw [← hd]
  have:c * c * (2 ^ i * 2 ^ i) = N * (2 ^ i * 2 ^ i):=by rw [← h,hc];ac_rfl
  exact Nat.eq_of_mul_eq_mul_right hpp this
 ·intro h
  have:isq (N * (2 ^ i * 2 ^ i)) = isq N * 2 ^ i:=by
   refine isq_unique ?_ ?_
   ·rw [sq_mul,h];exact Nat.le_refl _
   ·have:=sq_succ (isq N * 2 ^ i)
    rw [sq_mul,h] at this
    omega
  rw [this,sq_mul,h]
theorem rS_flag (N i:Nat) (E:Int) (hq:9007199254740992≤isq N) :
  rflag (oM (rS (N * (2 ^ i * 2 ^ i)):Nat)).natAbs (oE (rS (N * (2 ^ i * 2 ^ i)):Nat) (E - i)) = rflag (oM (rS N:Nat)).natAbs (oE (rS N:Nat) E):=by
 obtain ⟨s1,s2,s3,s4⟩:=rS_step N i E hq
 have hsq:=isq_sq N i
 by_cases h0:isq N * isq N = N
 ·have h1:=hsq.2 h0
  have h2:isq (N * (2 ^ i * 2 ^ i)) = isq N * 2 ^ i:=by
   refine isq_unique ?_ ?_
   ·rw [sq_mul,h0];exact Nat.le_refl _
   ·have:=sq_succ (isq N * 2 ^ i)
    rw [sq_mul,h0] at this
    omega
  have e:rS (N * (2 ^ i * 2 ^ i)) = rS N * 2 ^ i:=by
   unfold rS;rw [if_pos h0,if_pos h1,h2,Nat.add_zero,Nat.add_zero,Nat.mul_assoc]
  have e2:((rS (N * (2 ^ i * 2 ^ i)):Nat):Int) = ((rS N:Nat):Int) * 2 ^ i:=by rw [e,Int.natCast_mul,Int.natCast_pow];rfl
  have:=oM_scale ((rS N:Nat):Int) i (E - i)
  rw [e2,this.1,this.2,show E - (i:Int)+i = E by omega]
 ·have h1:¬ isq (N * (2 ^ i * 2 ^ i)) * isq (N * (2 ^ i * 2 ^ i)) = N * (2 ^ i * 2 ^ i):=fun h=>h0 (hsq.1 h)
  have o1:((rS N:Nat):Int) % 2 = 1:=by unfold rS;rw [if_neg h0];omega
  have o2:((rS (N * (2 ^ i * 2 ^ i)):Nat):Int) % 2 = 1:=by unfold rS;rw [if_neg h1];omega
  have z1:∀ (v:Nat) (e:Int),(v:Int) % 2 = 1→oM (v:Int) = v∧oE (v:Int) e = e:=fun v e h=>by
   have hne:(v:Int) ≠ 0:=by omega
   have a:=(oddOf (v:Int) hne).unique (m':=(v:Int)) (k':=0) ⟨by simp,h⟩
   exact ⟨a.1,by rw [oE_ne _ _ hne,a.2];simp⟩
  rw [(z1 _ (E - i) o2).1,(z1 _ (E - i) o2).2,(z1 _ E o1).1,(z1 _ E o1).2,Int.natAbs_natCast,Int.natAbs_natCast]
  have n1:rS N ≠ 0:=by omega
  have n2:rS (N * (2 ^ i * 2 ^ i)) ≠ 0:=by omega
  unfold rflag
  rw [if_neg n1,if_neg n2,s3,s2,s1,if_neg (show ¬ lastE (rS N) E≤E - i by omega),if_neg (show ¬ lastE (rS N) E≤E by omega)]
end Go.Proofs.YtdhmglmccafbnaaGreatDoor
namespace Go.Proofs.YtdhmglmccafbnaaGreatDoor
open Go.RowKit
theorem root_two (m k p D α sh:Nat) (e1 e2:Int) (hV:m * 2 ^ k = D * 2 ^ α) (h1:2 * e1 = (k:Int) - 1074 - p) (h2:2 * e2 = (α:Int) - 1074 - sh) (q1:9007199254740992≤isq (m * 2 ^ p)) (q2:9007199254740992≤isq (D * 2 ^ sh)) :
  rnd (rS (m * 2 ^ p)) (e1 - 1) = rnd (rS (D * 2 ^ sh)) (e2 - 1)∧rflag (oM (rS (m * 2 ^ p):Nat)).natAbs (oE (rS (m * 2 ^ p):Nat) (e1 - 1)) = rflag (oM (rS (D * 2 ^ sh):Nat)).natAbs (oE (rS (D * 2 ^ sh):Nat) (e2 - 1)):=by
 have key:∀ (m k p D α sh i:Nat),m * 2 ^ k = D * 2 ^ α→p+2 * i+α = k+sh→m * 2 ^ p * (2 ^ i * 2 ^ i) = D * 2 ^ sh:=by
  intro m k p D α sh i hV hi
  have hp:0 < 2 ^ α:=Nat.two_pow_pos _
  refine Nat.eq_of_mul_eq_mul_right hp ?_
  rw [← Nat.pow_add,Nat.mul_assoc,Nat.mul_assoc,← Nat.pow_add,← Nat.pow_add,show p+(i+i+α) = k+sh by omega,Nat.pow_add,← Nat.mul_assoc,hV]
  ac_rfl
 rcases Int.le_total e2 e1 with h | h
 ·obtain ⟨i,hi⟩:∃ i:Nat,e1 - e2 = i:=⟨(e1 - e2).toNat,by omega⟩
  have e:=key m k p D α sh i hV (by omega)
  have s:=rS_step (m * 2 ^ p) i (e1 - 1) q1
  have f:=rS_flag (m * 2 ^ p) i (e1 - 1) q1
  rw [e,show e1 - 1 - (i:Int) = e2 - 1 by omega] at s f
  exact ⟨s.1.symm,f.symm⟩
 ·obtain ⟨i,hi⟩:∃ i:Nat,e2 - e1 = i:=⟨(e2 - e1).toNat,by omega⟩
  have e:=key D α sh m k p i hV.symm (by omega)
  have s:=rS_step (D * 2 ^ sh) i (e2 - 1) q2
  have f:=rS_flag (D * 2 ^ sh) i (e2 - 1) q2
  rw [e,show e2 - 1 - (i:Int) = e1 - 1 by omega] at s f
  exact ⟨s.1,f⟩
def tS (a:Nat):Nat:=rS (rv (fR a) * 2 ^ 120)
def tV (a:Nat):Nat:=rnd (tS a) (-598)
def tF (a:Nat):Int:=rflag (oM (tS a:Nat)).natAbs (oE (tS a:Nat) (-598))
def sV (a:Nat):Nat :=
 if fK a = 4 then 9221120237041090560
 else if fK a = 0 ∨ a = 9218868437227405312 then a
 else if fS a = true then 9221120237041090560
 else tV a
def sF (a:Nat):Int :=
 if fK a = 4 then 0
 else if fK a = 0 ∨ a = 9218868437227405312 then 0
 else if fS a = true then 16
 else tF a
theorem big_sq {N:Nat} (h:2 ^ 106≤N):9007199254740992≤isq N:=by
 obtain ⟨g1,g2⟩:=isq_spec N
 have e:(9007199254740992:Nat) * 9007199254740992 = 2 ^ 106:=by decide
 have:9007199254740992 < isq N+1:=sq_lt_iff.1 (by omega)
 omega
theorem tS_big (a:Nat) (h0:fK a ≠ 0):9007199254740992≤isq (rv (fR a) * 2 ^ 120):=by
 have hr:rv (fR a) ≠ 0:=fun e=>h0 ((fK_zero a).2 ((rv_eq0 _).1 e))
 refine big_sq (Nat.le_trans (show 2 ^ 106≤1 * 2 ^ 120 by decide) (Nat.mul_le_mul_right _ (by omega)))
theorem root_any (a m k p:Nat) (e:Int) (h0:fK a ≠ 0) (hm:m * 2 ^ k = rv (fR a)) (he:2 * e = (k:Int) - 1074 - p) (hq:9007199254740992≤isq (m * 2 ^ p)) :
  rnd (rS (m * 2 ^ p)) (e - 1) = tV a∧rflag (oM (rS (m * 2 ^ p):Nat)).natAbs (oE (rS (m * 2 ^ p):Nat) (e - 1)) = tF a:=by
 have:=root_two m k p (rv (fR a)) 0 120 e (-597) (by rw [hm];simp) he (by omega) hq (tS_big a h0)
 exact this
end Go.Proofs.YtdhmglmccafbnaaGreatDoor
namespace Go.Proofs.YtdhmglmccafbnaaGreatDoor
open Go.RowKit
theorem tV_le (a:Nat):tV a≤9218868437227405312:=rnd_le _ _
theorem sV_lt (a:Nat) (ha:a < 18446744073709551616):sV a < 18446744073709551616:=by
 have h:=tV_le a
 unfold sV
 repeat' split
 all_goals omega
end Go.Proofs.YtdhmglmccafbnaaGreatDoor
