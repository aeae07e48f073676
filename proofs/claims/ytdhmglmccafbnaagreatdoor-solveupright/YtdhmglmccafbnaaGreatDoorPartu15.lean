/- Part 15 of the texts. -/
import Derived.Test.YtdhmglmccafbnaaGreatDoorPartu14
import Derived.Test.YtdhmglmccafbnaaGreatDoorPartu13
set_option maxHeartbeats 4000000
set_option maxRecDepth 20000
namespace Go.Proofs.YtdhmglmccafbnaaGreatDoor
open Go.RowKit
def p2 (e:Int):Rat:=(2:Rat) ^ e
theorem two_ne:(2:Rat) ≠ 0:=by decide
theorem p2_pos (e:Int):0 < p2 e:=Rat.zpow_pos (by decide)
theorem p2_add (a b:Int):p2 (a+b) = p2 a * p2 b:=Rat.zpow_add two_ne a b
theorem p2_0:p2 0 = 1:=Rat.zpow_zero 2
theorem p2_nat (k:Nat):p2 (k:Int) = ((2 ^ k:Nat):Rat):=by
 unfold p2
 rw [Rat.zpow_natCast,Rat.natCast_pow]
 rfl
theorem p2_1:p2 1 = 2:=Rat.zpow_one 2
theorem p2_neg (a:Int):p2 (-a) * p2 a = 1:=by rw [← p2_add,show -a+a = 0 by omega,p2_0]
theorem p2_succ (e:Int):p2 (e+1) = 2 * p2 e:=by rw [p2_add,p2_1,Rat.mul_comm]
theorem p2_52 (e:Int):p2 (e+52) = 4503599627370496 * p2 e:=by
 rw [p2_add,show (52:Int) = ((52:Nat):Int) by rfl,p2_nat,Rat.mul_comm]
 rfl
theorem p2_mono {a b:Int} (h:a≤b):p2 a≤p2 b:=by
 obtain ⟨k,hk⟩:∃ k:Nat,b = a+(k:Int):=⟨(b - a).toNat,by omega⟩
 rw [hk,p2_add,p2_nat]
 have h1:((1:Nat):Rat)≤((2 ^ k:Nat):Rat):=Rat.natCast_le_natCast.2 Nat.one_le_two_pow
 have h2:=Rat.mul_le_mul_of_nonneg_left h1 (Rat.le_of_lt (p2_pos a))
 have h3:((1:Nat):Rat) = 1:=rfl
 rw [h3,Rat.mul_one] at h2
 exact h2
def xE (v:Nat) (E:Int):Rat:=(v:Rat) * p2 E
def yE (v:Nat) (E:Int):Rat:=(rv (rnd v E):Rat) * p2 (-1074)
theorem rv_rnd (v:Nat) (E:Int) (h:v ≠ 0) (ht:(bl v:Int)+E≤1024):rv (rnd v E) = rndM v E * 2 ^ (lastE v E+1074).toNat:=by
 obtain ⟨b1,b2,b3⟩:=rndM_bounds v E h
 obtain ⟨l1,l2,l3⟩:=lastE_ge v E
 rw [rnd_fin v E h ht]
 exact rv_of _ _ b1 (fun hk=>b2 (by omega))
theorem yE_last (v:Nat) (E:Int) (h:v ≠ 0) (ht:(bl v:Int)+E≤1024):yE v E = (rndM v E:Rat) * p2 (lastE v E):=by
 obtain ⟨l1,l2,l3⟩:=lastE_ge v E
 unfold yE
 rw [rv_rnd v E h ht,Rat.natCast_mul,← p2_nat,Rat.mul_assoc,← p2_add]
 congr 2
 omega
theorem fin_top (v:Nat) (E:Int) (h:v ≠ 0) (hf:rnd v E < 9218868437227405312):(bl v:Int)+E≤1024:=by
 rcases Int.lt_or_le 1024 ((bl v:Int)+E) with g | g
 ·have:=(rnd_high h g).1
  omega
 ·exact g
theorem rnd_half (v:Nat) (E:Int) (h:v ≠ 0) (ht:(bl v:Int)+E≤1024) :
  (lastE v E≤E→yE v E = xE v E)∧2 * yE v E≤2 * xE v E+p2 (lastE v E)∧2 * xE v E≤2 * yE v E+p2 (lastE v E):=by
 have hp:=p2_pos (lastE v E)
 by_cases hl:lastE v E≤E
 ·have e:yE v E = xE v E:=by
   obtain ⟨k,hk⟩:∃ k:Nat,E - lastE v E = (k:Int):=⟨(E - lastE v E).toNat,by omega⟩
   rw [yE_last v E h ht]
   unfold rndM xE
   rw [hk,mS_up,Rat.natCast_mul,← p2_nat,Rat.mul_assoc,← p2_add,show ((k:Nat):Int)+lastE v E = E by omega]
  refine ⟨fun _=>e,?_,?_⟩ <;> rw [e] <;> grind
 ·obtain ⟨k,hk,hk1⟩:∃ k:Nat,E - lastE v E = -(k:Int)∧1≤k:=⟨(lastE v E - E).toNat,by omega,by omega⟩
  obtain ⟨c1,c2⟩:=cutE_near v k
  have hE:lastE v E = (k:Int)+E:=by omega
  have hy:yE v E = ((cutE v k * 2 ^ k:Nat):Rat) * p2 E:=by
   rw [yE_last v E h ht]
   unfold rndM
   rw [hk,mS_down _ _ hk1,hE,p2_add,p2_nat,Rat.natCast_mul,Rat.mul_assoc]
  have hpE:=p2_pos E
  have hP:p2 (lastE v E) = ((2 ^ k:Nat):Rat) * p2 E:=by rw [hE,p2_add,p2_nat]
  have d1:=Rat.mul_le_mul_of_nonneg_left (Rat.natCast_le_natCast.2 c1) (Rat.le_of_lt hpE)
  have d2:=Rat.mul_le_mul_of_nonneg_left (Rat.natCast_le_natCast.2 c2) (Rat.le_of_lt hpE)
  rw [Rat.natCast_add,Rat.natCast_mul 2,Rat.natCast_mul 2] at d1 d2
  have t2:((2:Nat):Rat) = 2:=rfl
  rw [t2] at d1 d2
  refine ⟨fun g=>absurd g hl,?_,?_⟩ <;> rw [hy,hP] <;> unfold xE <;> grind
theorem rnd_err (v:Nat) (E:Int) (hf:rnd v E < 9218868437227405312) :
  (9007199254740992 * yE v E≤9007199254740992 * xE v E+xE v E∧9007199254740992 * xE v E≤9007199254740992 * yE v E+xE v E) ∨
  (rnd v E≤4503599627370496∧E < -1074∧2 * yE v E≤2 * xE v E+p2 (-1074)∧2 * xE v E≤2 * yE v E+p2 (-1074)):=by
 by_cases h:v = 0
 ·subst h
  refine .inl ?_
  have e:yE 0 E = 0:=by unfold yE;rw [rnd_0,rv_zero];exact Rat.zero_mul _
  have e2:xE 0 E = 0:=Rat.zero_mul _
  rw [e,e2]
  constructor <;> grind
 have ht:=fin_top v E h hf
 obtain ⟨l1,l2,l3⟩:=lastE_ge v E
 obtain ⟨r1,r2,r3⟩:=rnd_half v E h ht
 obtain ⟨b1,b2,b3⟩:=bl_spec v h
 have hx0:0≤xE v E:=Rat.mul_nonneg (Rat.natCast_nonneg) (Rat.le_of_lt (p2_pos E))
 by_cases hl:lastE v E≤E
 ·refine .inl ?_
  rw [r1 hl]
  constructor <;> grind
 ·rcases (show (lastE v E = -1074∧(bl v:Int)+E < -1021) ∨ lastE v E = (bl v:Int)+E - 53 by omega) with ⟨l4,l5⟩ | l3
  ·refine .inr ⟨?_,by omega,?_⟩
   ·obtain ⟨k,hk,hk1⟩:∃ k:Nat,E - lastE v E = -(k:Int)∧1≤k:=⟨(lastE v E - E).toNat,by omega,by omega⟩
    have hM:rndM v E≤4503599627370496:=by
     unfold rndM
     rw [hk,mS_down _ _ hk1]
     refine cutE_upto ?_
     have h1:v < 2 ^ (52+k):=Nat.lt_of_lt_of_le b3 (pow_le2 (by omega))
     rw [Nat.pow_add,p52] at h1
     exact Nat.le_of_lt h1
    have h0:(lastE v E+1074).toNat = 0:=by omega
    rw [rnd_fin v E h ht,h0,Nat.zero_mul,Nat.add_zero]
    exact hM
   ·rw [l4] at r2 r3
    exact ⟨r2,r3⟩
  ·refine .inl ?_
   have hq:4503599627370496 * p2 (lastE v E)≤xE v E:=by
    rw [← p2_52,l3,show (bl v:Int)+E - 53+52 = ((bl v - 1:Nat):Int)+E by omega,p2_add,p2_nat]
    unfold xE
    have:=Rat.mul_le_mul_of_nonneg_left (Rat.natCast_le_natCast.2 b2) (Rat.le_of_lt (p2_pos E))
    grind
   constructor <;> grind
end Go.Proofs.YtdhmglmccafbnaaGreatDoor
namespace Go.Proofs.YtdhmglmccafbnaaGreatDoor
def isq:Nat→Nat
 | 0=>0
 | n+1=>if (isq n+1) * (isq n+1)≤n+1 then isq n+1 else isq n
theorem sq_succ (m:Nat):(m+1) * (m+1) = m * m+2 * m+1:=by rw [Nat.add_mul,Nat.mul_add];omega
theorem sq_le {a b:Nat} (h:a≤b):a * a≤b * b:=Nat.mul_le_mul h h
theorem sq_lt {a b:Nat} (h:a < b):a * a < b * b:=Nat.mul_lt_mul_of_lt_of_le h (Nat.le_of_lt h) (by omega)
theorem sq_lt_iff {a b:Nat}:a * a < b * b ↔ a < b:=by
 constructor
 ·intro h
  rcases Nat.lt_or_ge a b with h1 | h1
  ·exact h1
  ·have:=sq_le h1;omega
 ·exact sq_lt
theorem isq_spec (n:Nat):isq n * isq n≤n∧n < (isq n+1) * (isq n+1):=by
 induction n with
 | zero=>exact ⟨Nat.le_refl _,by decide⟩
 | succ n ih =>
  unfold isq
  obtain ⟨h1,h2⟩:=ih
  have e1:=sq_succ (isq n)
  have e2:=sq_succ (isq n+1)
  split
  ·rename_i h
   exact ⟨h,by omega⟩
  ·rename_i h
   exact ⟨by omega,by omega⟩
theorem isq_unique {n m:Nat} (h1:m * m≤n) (h2:n < (m+1) * (m+1)):isq n = m:=by
 obtain ⟨g1,g2⟩:=isq_spec n
 have a1:isq n < m+1:=sq_lt_iff.1 (by omega)
 have a2:m < isq n+1:=sq_lt_iff.1 (by omega)
 omega
theorem isq_mono {n m:Nat} (h:n≤m):isq n≤isq m:=by
 obtain ⟨g1,g2⟩:=isq_spec n
 obtain ⟨k1,k2⟩:=isq_spec m
 have:isq n < isq m+1:=sq_lt_iff.1 (by omega)
 omega
theorem sq_mul (a p:Nat):a * p * (a * p) = a * a * (p * p):=by ac_rfl
theorem isq_scale (N p:Nat) (hp:0 < p):isq (N * (p * p)) / p = isq N:=by
 obtain ⟨g1,g2⟩:=isq_spec N
 obtain ⟨k1,k2⟩:=isq_spec (N * (p * p))
 have hpp:0 < p * p:=Nat.mul_pos hp hp
 have a1:isq N * p < isq (N * (p * p))+1:=by
  apply sq_lt_iff.1
  rw [sq_mul]
  have:isq N * isq N * (p * p)≤N * (p * p):=Nat.mul_le_mul_right _ g1
  omega
 have a2:isq (N * (p * p)) < (isq N+1) * p:=by
  apply sq_lt_iff.1
  rw [sq_mul]
  have:N * (p * p) < (isq N+1) * (isq N+1) * (p * p):=(Nat.mul_lt_mul_right hpp).2 g2
  omega
 have b1:isq N≤isq (N * (p * p)) / p:=(Nat.le_div_iff_mul_le hp).2 (by omega)
 have b2:isq (N * (p * p)) / p < isq N+1:=(Nat.div_lt_iff_lt_mul hp).2 a2
 omega
def rS (N:Nat):Nat:=2 * isq N+(if isq N * isq N = N then 0 else 1)
def cutR (N k:Nat):Nat:=isq N / 2 ^ k+(if (2 * (isq N / 2 ^ k)+1) * 2 ^ k * ((2 * (isq N / 2 ^ k)+1) * 2 ^ k) < 4 * N ∨ ((2 * (isq N / 2 ^ k)+1) * 2 ^ k * ((2 * (isq N / 2 ^ k)+1) * 2 ^ k) = 4 * N∧isq N / 2 ^ k % 2 = 1) then 1 else 0)
theorem cutR_scale (N k i:Nat):cutR (N * (2 ^ i * 2 ^ i)) (k+i) = cutR N k:=by
 have hp:0 < 2 ^ i:=Nat.two_pow_pos _
 have hpp:0 < 2 ^ i * 2 ^ i:=Nat.mul_pos hp hp
 have e:isq (N * (2 ^ i * 2 ^ i)) / 2 ^ (k+i) = isq N / 2 ^ k:=by
  rw [Nat.add_comm k i,Nat.pow_add,← Nat.div_div_eq_div_mul,isq_scale N _ hp]
 unfold cutR
 rw [e]
 generalize isq N / 2 ^ k = m
 have s1:(2 * m+1) * 2 ^ (k+i) * ((2 * m+1) * 2 ^ (k+i)) = (2 * m+1) * 2 ^ k * ((2 * m+1) * 2 ^ k) * (2 ^ i * 2 ^ i):=by
  rw [Nat.pow_add];ac_rfl
 have s2:4 * (N * (2 ^ i * 2 ^ i)) = 4 * N * (2 ^ i * 2 ^ i):=by ac_rfl
 rw [s1,s2]
 have c1:((2 * m+1) * 2 ^ k * ((2 * m+1) * 2 ^ k) * (2 ^ i * 2 ^ i) < 4 * N * (2 ^ i * 2 ^ i)) ↔ (2 * m+1) * 2 ^ k * ((2 * m+1) * 2 ^ k) < 4 * N:=Nat.mul_lt_mul_right hpp
 have c2:((2 * m+1) * 2 ^ k * ((2 * m+1) * 2 ^ k) * (2 ^ i * 2 ^ i) = 4 * N * (2 ^ i * 2 ^ i)) ↔ (2 * m+1) * 2 ^ k * ((2 * m+1) * 2 ^ k) = 4 * N :=
  ⟨fun h=>Nat.eq_of_mul_eq_mul_right hpp h,fun h=>by rw [h]⟩
 simp only [c1,c2]
theorem rS_cut (N k:Nat) (hk:1≤k):cutE (rS N) (k+1) = cutR N k:=by
 obtain ⟨j,rfl⟩:∃ j,k = j+1:=⟨k - 1,by omega⟩
 obtain ⟨n1,n2⟩:=isq_spec N
 have hg:0 < 2 ^ j:=Nat.two_pow_pos _
 have e1:(2:Nat) ^ (j+1) = 2 * 2 ^ j:=by rw [Nat.pow_succ,Nat.mul_comm]
 have e2:(2:Nat) ^ (j+1+1) = 2 * (2 * 2 ^ j):=by rw [Nat.pow_succ,e1,Nat.mul_comm]
 have ht:(if isq N * isq N = N then 0 else 1)≤1:=by split <;> omega
 have htz:(if isq N * isq N = N then 0 else 1) = 0 ↔ isq N * isq N = N:=by split <;> simp_all
 unfold cutE cutR rS
 rw [e2,e1]
 generalize (2:Nat) ^ j = g at *
 generalize (if isq N * isq N = N then 0 else 1) = t at *
 generalize isq N = q at *
 have hq:=Nat.div_add_mod q (2 * g)
 have ha:=Nat.mod_lt q (show 0 < 2 * g by omega)
 generalize hA:q % (2 * g) = a at *
 generalize hQ:q / (2 * g) = b at *
 have s1:(2 * q+t) / (2 * (2 * g)) = b:=by
  rw [← hq,Nat.mul_add,← Nat.mul_assoc 2 (2 * g) b,Nat.add_assoc]
  rw [Nat.mul_add_div (by omega),Nat.div_eq_of_lt (by omega),Nat.add_zero]
 have s2:(2 * q+t) % (2 * (2 * g)) = 2 * a+t:=by
  rw [← hq,Nat.mul_add,← Nat.mul_assoc 2 (2 * g) b,Nat.add_assoc,Nat.mul_add_mod,Nat.mod_eq_of_lt (by omega)]
 rw [s1,s2]
 congr 1
 -- half between two,as a square
 obtain ⟨c,hc⟩:∃ c,c = 2 * g * b+g:=⟨_,rfl⟩
 have hM:(2 * b+1) * (2 * g) * ((2 * b+1) * (2 * g)) = 4 * (c * c):=by
  have:(2 * b+1) * (2 * g) = 2 * c:=by rw [hc,Nat.add_mul,Nat.one_mul,Nat.mul_add];ac_rfl
  rw [this,show (4:Nat) = 2 * 2 by decide]
  ac_rfl
 rw [hM]
 clear hM hQ hA s1 s2
 rcases Nat.lt_trichotomy a g with h | h | h
 ·have h1:(q+1) * (q+1)≤c * c:=sq_le (by omega)
  rw [if_neg (by omega),if_neg (by omega)]
 ·have h1:c = q:=by omega
  subst h1
  by_cases h0:c * c = N
  ·have:=htz.2 h0
   by_cases hb:b % 2 = 1
   ·rw [if_pos (Or.inr ⟨by omega,hb⟩),if_pos (Or.inr ⟨by omega,hb⟩)]
   ·rw [if_neg (by omega),if_neg (by omega)]
  ·have:t ≠ 0:=fun e=>h0 (htz.1 e)
   rw [if_pos (Or.inl (by omega)),if_pos (Or.inl (by omega))]
 ·have h1:c * c < q * q:=sq_lt (by omega)
  rw [if_pos (Or.inl (by omega)),if_pos (Or.inl (by omega))]
theorem rS_bl (N i:Nat) (hq:0 < isq N):bl (rS (N * (2 ^ i * 2 ^ i))) = bl (rS N)+i:=by
 have hp:0 < 2 ^ i:=Nat.two_pow_pos _
 have hs:rS N ≠ 0:=by unfold rS;omega
 obtain ⟨b1,b2,b3⟩:=bl_spec (rS N) hs
 have h1:2≤rS N:=by unfold rS;omega
 have hb2:2≤bl (rS N):=by
  rcases Nat.lt_or_ge (bl (rS N)) 2 with h | h
  ·have:bl (rS N) = 1:=by omega
   rw [this] at b3;omega
  ·exact h
 obtain ⟨c,hc⟩:∃ c,bl (rS N) = c+2:=⟨bl (rS N) - 2,by omega⟩
 rw [hc] at b2 b3 ⊢
 have ht:(if isq N * isq N = N then 0 else 1)≤1:=by split <;> omega
 have q3:2 ^ c≤isq N:=by
  rw [show c+2 - 1 = c+1 by omega,Nat.pow_succ] at b2
  unfold rS at b2
  omega
 have q2:isq N < 2 ^ (c+1):=by
  rw [Nat.pow_succ] at b3
  unfold rS at b3
  omega
 have hd:=isq_scale N (2 ^ i) hp
 have m1:2 ^ (c+i)≤isq (N * (2 ^ i * 2 ^ i)):=by
  rw [Nat.pow_add,← Nat.le_div_iff_mul_le hp,hd];exact q3
 have m2:isq (N * (2 ^ i * 2 ^ i)) < 2 ^ (c+1+i):=by
  rw [Nat.pow_add,← Nat.div_lt_iff_lt_mul hp,hd];exact q2
 refine bl_of (by omega) ?_ ?_
 ·rw [show c+2+i - 1 = c+i+1 by omega,Nat.pow_succ]
  unfold rS
  omega
 ·rw [show c+2+i = c+1+i+1 by omega,Nat.pow_succ]
  unfold rS
  have ht:(if isq (N * (2 ^ i * 2 ^ i)) * isq (N * (2 ^ i * 2 ^ i)) = N * (2 ^ i * 2 ^ i) then 0 else 1)≤1:=by split <;> omega
  omega
theorem rS_big {N:Nat} (hq:9007199254740992≤isq N):55≤bl (rS N):=by
 have hs:rS N ≠ 0:=by unfold rS;omega
 obtain ⟨b1,b2,b3⟩:=bl_spec (rS N) hs
 have h:2 ^ 54≤rS N:=by
  have:(2:Nat) ^ 54 = 2 * 9007199254740992:=by decide
  rw [this];unfold rS;omega
 have:=pow_lt_of (Nat.lt_of_le_of_lt h b3)
 omega
theorem rS_step (N i:Nat) (E:Int) (hq:9007199254740992≤isq N) :
  rnd (rS (N * (2 ^ i * 2 ^ i))) (E - i) = rnd (rS N) E∧lastE (rS (N * (2 ^ i * 2 ^ i))) (E - i) = lastE (rS N) E∧(bl (rS (N * (2 ^ i * 2 ^ i))):Int)+(E - i) = (bl (rS N):Int)+E∧E+2≤lastE (rS N) E:=by
 have hb:=rS_bl N i (by omega)
 have h55:=rS_big hq
 have hs:rS N ≠ 0:=by unfold rS;omega
 have hs':rS (N * (2 ^ i * 2 ^ i)) ≠ 0:=fun h=>by
  rw [h] at hb
  have:bl 0 = 0:=rfl
  omega
 have hl:lastE (rS (N * (2 ^ i * 2 ^ i))) (E - i) = lastE (rS N) E:=by unfold lastE;rw [hb];omega
 have hbE:(bl (rS (N * (2 ^ i * 2 ^ i))):Int)+(E - i) = (bl (rS N):Int)+E:=by rw [hb];omega
 have h2:E+2≤lastE (rS N) E:=by have:=(lastE_ge (rS N) E).2.1;omega
 refine ⟨?_,hl,hbE,h2⟩
 have hM:rndM (rS (N * (2 ^ i * 2 ^ i))) (E - i) = rndM (rS N) E:=by
  unfold rndM
  rw [hl]
  obtain ⟨k,hk⟩:∃ k:Nat,lastE (rS N) E = E+k+1∧1≤k:=⟨(lastE (rS N) E - E - 1).toNat,by omega,by omega⟩
  rw [show E - i - lastE (rS N) E = -((k+i+1:Nat):Int) by omega,show E - lastE (rS N) E = -((k+1:Nat):Int) by omega]
  rw [mS_down _ _ (by omega),mS_down _ _ (by omega),rS_cut _ _ (by omega),rS_cut _ _ (by omega)]
  exact cutR_scale _ _ _
 unfold rnd
 rw [if_neg hs,if_neg hs',hbE,hM,hl]
theorem isq_sq (N i:Nat):isq (N * (2 ^ i * 2 ^ i)) * isq (N * (2 ^ i * 2 ^ i)) = N * (2 ^ i * 2 ^ i) ↔ isq N * isq N = N:=by
 have hp:0 < 2 ^ i:=Nat.two_pow_pos _
 have hpp:0 < 2 ^ i * 2 ^ i:=Nat.mul_pos hp hp
 constructor
 ·intro h
  have hd:=isq_scale N (2 ^ i) hp
  generalize hR:isq (N * (2 ^ i * 2 ^ i)) = R at *
  -- 2^i goes into R,since its square goes into R's
  have dv:∀ (n a:Nat),(2 ^ n * 2 ^ n) ∣ a * a→2 ^ n ∣ a:=by
   intro n
   induction n with
   | zero=>intro a _;simp
   | succ n ih =>
    intro a ha
    have h2:2 ∣ a * a:=Nat.dvd_trans ⟨2 ^ n * 2 ^ (n+1),by rw [Nat.pow_succ];ac_rfl⟩ ha
    have h3:a % 2 = 0:=by
     rcases Nat.mod_two_eq_zero_or_one a with h | h
     ·exact h
     ·exfalso
      have:a * a % 2 = 1:=by rw [Nat.mul_mod,h]
      omega
    obtain ⟨b,rfl⟩:∃ b,a = 2 * b:=⟨a / 2,by omega⟩
    have h4:2 ^ n * 2 ^ n ∣ b * b:=by
     obtain ⟨c,hc⟩:=ha
     refine ⟨c,?_⟩
     have:4 * (b * b) = 4 * (2 ^ n * 2 ^ n * c):=by
      have e1:2 * b * (2 * b) = 4 * (b * b):=by rw [show (4:Nat) = 2 * 2 by decide];ac_rfl
      have e2:2 ^ (n+1) * 2 ^ (n+1) * c = 4 * (2 ^ n * 2 ^ n * c):=by rw [Nat.pow_succ,show (4:Nat) = 2 * 2 by decide];ac_rfl
      rw [← e1,hc,e2]
     omega
    obtain ⟨d,hd⟩:=ih b h4
    exact ⟨d,by rw [hd,Nat.pow_succ];ac_rfl⟩
  obtain ⟨c,hc⟩:=dv i R ⟨N,by rw [h];ac_rfl⟩
  rw [hc,Nat.mul_div_cancel_left c hp] at hd
  rw [← hd]
  have:c * c * (2 ^ i * 2 ^ i) = N * (2 ^ i * 2 ^ i):=by rw [← h,hc];ac_rfl
  exact Nat.eq_of_mul_eq_mul_right hpp this
 ·intro h
  have:isq (N * (2 ^ i * 2 ^ i)) = isq N * 2 ^ i:=by
   refine isq_unique ?_ ?_
   ·rw [sq_mul,h];exact Nat.le_refl _
   ·have:=sq_succ (isq N * 2 ^ i)
    rw [sq_mul,h] at this
    omega
  rw [this,sq_mul,h]
theorem rS_flag (N i:Nat) (E:Int) (hq:9007199254740992≤isq N) :
  rflag (oM (rS (N * (2 ^ i * 2 ^ i)):Nat)).natAbs (oE (rS (N * (2 ^ i * 2 ^ i)):Nat) (E - i)) = rflag (oM (rS N:Nat)).natAbs (oE (rS N:Nat) E):=by
 obtain ⟨s1,s2,s3,s4⟩:=rS_step N i E hq
 have hsq:=isq_sq N i
 by_cases h0:isq N * isq N = N
 ·have h1:=hsq.2 h0
  have h2:isq (N * (2 ^ i * 2 ^ i)) = isq N * 2 ^ i:=by
   refine isq_unique ?_ ?_
   ·rw [sq_mul,h0];exact Nat.le_refl _
   ·have:=sq_succ (isq N * 2 ^ i)
    rw [sq_mul,h0] at this
    omega
  have e:rS (N * (2 ^ i * 2 ^ i)) = rS N * 2 ^ i:=by
   unfold rS;rw [if_pos h0,if_pos h1,h2,Nat.add_zero,Nat.add_zero,Nat.mul_assoc]
  have e2:((rS (N * (2 ^ i * 2 ^ i)):Nat):Int) = ((rS N:Nat):Int) * 2 ^ i:=by rw [e,Int.natCast_mul,Int.natCast_pow];rfl
  have:=oM_scale ((rS N:Nat):Int) i (E - i)
  rw [e2,this.1,this.2,show E - (i:Int)+i = E by omega]
 ·have h1:¬ isq (N * (2 ^ i * 2 ^ i)) * isq (N * (2 ^ i * 2 ^ i)) = N * (2 ^ i * 2 ^ i):=fun h=>h0 (hsq.1 h)
  have o1:((rS N:Nat):Int) % 2 = 1:=by unfold rS;rw [if_neg h0];omega
  have o2:((rS (N * (2 ^ i * 2 ^ i)):Nat):Int) % 2 = 1:=by unfold rS;rw [if_neg h1];omega
  have z1:∀ (v:Nat) (e:Int),(v:Int) % 2 = 1→oM (v:Int) = v∧oE (v:Int) e = e:=fun v e h=>by
   have hne:(v:Int) ≠ 0:=by omega
   have a:=(oddOf (v:Int) hne).unique (m':=(v:Int)) (k':=0) ⟨by simp,h⟩
   exact ⟨a.1,by rw [oE_ne _ _ hne,a.2];simp⟩
  rw [(z1 _ (E - i) o2).1,(z1 _ (E - i) o2).2,(z1 _ E o1).1,(z1 _ E o1).2,Int.natAbs_natCast,Int.natAbs_natCast]
  have n1:rS N ≠ 0:=by omega
  have n2:rS (N * (2 ^ i * 2 ^ i)) ≠ 0:=by omega
  unfold rflag
  rw [if_neg n1,if_neg n2,s3,s2,s1,if_neg (show ¬ lastE (rS N) E≤E - i by omega),if_neg (show ¬ lastE (rS N) E≤E by omega)]
end Go.Proofs.YtdhmglmccafbnaaGreatDoor
namespace Go.Proofs.YtdhmglmccafbnaaGreatDoor
open Go.RowKit
theorem root_two (m k p D α sh:Nat) (e1 e2:Int) (hV:m * 2 ^ k = D * 2 ^ α) (h1:2 * e1 = (k:Int) - 1074 - p) (h2:2 * e2 = (α:Int) - 1074 - sh) (q1:9007199254740992≤isq (m * 2 ^ p)) (q2:9007199254740992≤isq (D * 2 ^ sh)) :
  rnd (rS (m * 2 ^ p)) (e1 - 1) = rnd (rS (D * 2 ^ sh)) (e2 - 1)∧rflag (oM (rS (m * 2 ^ p):Nat)).natAbs (oE (rS (m * 2 ^ p):Nat) (e1 - 1)) = rflag (oM (rS (D * 2 ^ sh):Nat)).natAbs (oE (rS (D * 2 ^ sh):Nat) (e2 - 1)):=by
 have key:∀ (m k p D α sh i:Nat),m * 2 ^ k = D * 2 ^ α→p+2 * i+α = k+sh→m * 2 ^ p * (2 ^ i * 2 ^ i) = D * 2 ^ sh:=by
  intro m k p D α sh i hV hi
  have hp:0 < 2 ^ α:=Nat.two_pow_pos _
  refine Nat.eq_of_mul_eq_mul_right hp ?_
  rw [← Nat.pow_add,Nat.mul_assoc,Nat.mul_assoc,← Nat.pow_add,← Nat.pow_add,show p+(i+i+α) = k+sh by omega,Nat.pow_add,← Nat.mul_assoc,hV]
  ac_rfl
 rcases Int.le_total e2 e1 with h | h
 ·obtain ⟨i,hi⟩:∃ i:Nat,e1 - e2 = i:=⟨(e1 - e2).toNat,by omega⟩
  have e:=key m k p D α sh i hV (by omega)
  have s:=rS_step (m * 2 ^ p) i (e1 - 1) q1
  have f:=rS_flag (m * 2 ^ p) i (e1 - 1) q1
  rw [e,show e1 - 1 - (i:Int) = e2 - 1 by omega] at s f
  exact ⟨s.1.symm,f.symm⟩
 ·obtain ⟨i,hi⟩:∃ i:Nat,e2 - e1 = i:=⟨(e2 - e1).toNat,by omega⟩
  have e:=key D α sh m k p i hV.symm (by omega)
  have s:=rS_step (D * 2 ^ sh) i (e2 - 1) q2
  have f:=rS_flag (D * 2 ^ sh) i (e2 - 1) q2
  rw [e,show e2 - 1 - (i:Int) = e1 - 1 by omega] at s f
  exact ⟨s.1,f⟩
def tS (a:Nat):Nat:=rS (rv (fR a) * 2 ^ 120)
def tV (a:Nat):Nat:=rnd (tS a) (-598)
def tF (a:Nat):Int:=rflag (oM (tS a:Nat)).natAbs (oE (tS a:Nat) (-598))
def sV (a:Nat):Nat :=
 if fK a = 4 then 9221120237041090560
 else if fK a = 0 ∨ a = 9218868437227405312 then a
 else if fS a = true then 9221120237041090560
 else tV a
def sF (a:Nat):Int :=
 if fK a = 4 then 0
 else if fK a = 0 ∨ a = 9218868437227405312 then 0
 else if fS a = true then 16
 else tF a
theorem big_sq {N:Nat} (h:2 ^ 106≤N):9007199254740992≤isq N:=by
 obtain ⟨g1,g2⟩:=isq_spec N
 have e:(9007199254740992:Nat) * 9007199254740992 = 2 ^ 106:=by decide
 have:9007199254740992 < isq N+1:=sq_lt_iff.1 (by omega)
 omega
theorem tS_big (a:Nat) (h0:fK a ≠ 0):9007199254740992≤isq (rv (fR a) * 2 ^ 120):=by
 have hr:rv (fR a) ≠ 0:=fun e=>h0 ((fK_zero a).2 ((rv_eq0 _).1 e))
 refine big_sq (Nat.le_trans (show 2 ^ 106≤1 * 2 ^ 120 by decide) (Nat.mul_le_mul_right _ (by omega)))
theorem root_any (a m k p:Nat) (e:Int) (h0:fK a ≠ 0) (hm:m * 2 ^ k = rv (fR a)) (he:2 * e = (k:Int) - 1074 - p) (hq:9007199254740992≤isq (m * 2 ^ p)) :
  rnd (rS (m * 2 ^ p)) (e - 1) = tV a∧rflag (oM (rS (m * 2 ^ p):Nat)).natAbs (oE (rS (m * 2 ^ p):Nat) (e - 1)) = tF a:=by
 have:=root_two m k p (rv (fR a)) 0 120 e (-597) (by rw [hm];simp) he (by omega) hq (tS_big a h0)
 exact this
end Go.Proofs.YtdhmglmccafbnaaGreatDoor
namespace Go.Proofs.YtdhmglmccafbnaaGreatDoor
open Go.RowKit
theorem tV_le (a:Nat):tV a≤9218868437227405312:=rnd_le _ _
theorem sV_lt (a:Nat) (ha:a < 18446744073709551616):sV a < 18446744073709551616:=by
 have h:=tV_le a
 unfold sV
 repeat' split
 all_goals omega
theorem tlow:rnd (2 ^ 61) (-598) = 486 * 4503599627370496:=by decide +kernel
theorem thigh:rnd (2 ^ 1110) (-598) = 1535 * 4503599627370496:=by decide +kernel
theorem two60:(2:Nat) ^ 60 * 2 ^ 60 = 1 * 2 ^ 120:=by decide
theorem two1109:(2:Nat) ^ 1109 * 2 ^ 1109 = 2 ^ 2098 * 2 ^ 120:=by decide +kernel
theorem tS_low (a:Nat) (h0:fK a ≠ 0):2 ^ 60≤isq (rv (fR a) * 2 ^ 120)∧2 ^ 61≤tS a:=by
 have hr:rv (fR a) ≠ 0:=fun e=>h0 ((fK_zero a).2 ((rv_eq0 _).1 e))
 have h1:1 * 2 ^ 120≤rv (fR a) * 2 ^ 120:=Nat.mul_le_mul_right _ (by omega)
 obtain ⟨g1,g2⟩:=isq_spec (rv (fR a) * 2 ^ 120)
 have h2:2 ^ 60 < isq (rv (fR a) * 2 ^ 120)+1:=sq_lt_iff.1 (by rw [two60];exact Nat.lt_of_le_of_lt h1 g2)
 refine ⟨Nat.le_of_lt_succ h2,?_⟩
 have h3:=Nat.le_of_lt_succ h2
 have e:(2:Nat) ^ 61 = 2 * 2 ^ 60:=by decide
 unfold tS rS
 rw [e]
 exact Nat.le_trans (Nat.mul_le_mul_left 2 h3) (Nat.le_add_right _ _)
theorem sq_top {V P c R:Nat} (hV:V < P) (hc:0 < c) (hR:R * R = P * c):isq (V * c) < R:=by
 obtain ⟨g1,g2⟩:=isq_spec (V * c)
 have:V * c < P * c:=(Nat.mul_lt_mul_right hc).2 hV
 exact sq_lt_iff.1 (by rw [hR];omega)
theorem sq_topV {V:Nat} (h:V < 2 ^ 2098):isq (V * 2 ^ 120) < 2 ^ 1109:=by
 have h1:=two1109
 have h2:=Nat.two_pow_pos 120
 generalize (2:Nat) ^ 1109 = R at *
 generalize (2:Nat) ^ 2098 = P at *
 generalize (2:Nat) ^ 120 = c at *
 exact sq_top h h2 h1
theorem e1110:(2:Nat) ^ 1110 = 2 ^ 1109 * 2:=by decide +kernel
theorem rS_lt {N P:Nat} (h:isq N < P):rS N≤P * 2:=by
 unfold rS
 have ht:(if isq N * isq N = N then 0 else 1)≤1:=by split <;> omega
 omega
theorem tV_range (a:Nat) (hf:fFin a = true) (h0:fK a ≠ 0):486 * 4503599627370496≤tV a∧tV a≤1535 * 4503599627370496:=by
 have h1:=fZ_lt a hf
 rw [fZ_abs] at h1
 have h3:=sq_topV h1
 have h4:tS a≤2 ^ 1110:=by
  rw [e1110]
  generalize (2:Nat) ^ 1109 = R at *
  exact rS_lt h3
 refine ⟨?_,?_⟩
 ·rw [← tlow];exact rnd_mono _ (tS_low a h0).2
 ·rw [← thigh];exact rnd_mono _ h4
end Go.Proofs.YtdhmglmccafbnaaGreatDoor
namespace Go.Proofs.YtdhmglmccafbnaaGreatDoor
open Go.RowKit
theorem abs_plus (a:Nat) (h:fS a = false) (ha:a < 18446744073709551616):fR a = a:=by
 have:=of_decide_eq_false h
 unfold fR;omega
theorem abs_minus (a:Nat) (h:fS a = true) (ha:a < 18446744073709551616):fR a = fN a:=by
 have:=of_decide_eq_true h
 unfold fR fN;rw [if_pos this];omega
theorem cabs_any (a:Nat) (w:World) (ha:a < 18446744073709551616) :
  Calls Tryz.prog 124 #[.int .u64 a] w fun e w'=>e = .returned (.int .u64 (fR a:Nat))∧Below w.heap.size w w':=by
 have K1:=hide (fun w'=>ssign_any a w' ha)
 have K2:=hide (fun w'=>sminus_any a w' ha)
 cases hs:fS a
 ·rw [hs] at K1
  rw [abs_plus a hs ha]
  clear hs ha K2
  go_enter Tryz.func124,Tryz.ntmps124
  go_wp2_with fail
  refine (uH K1 _).mono ?_
  rintro e w1 ⟨rfl,hb1⟩
  clear K1
  go_wp2
  go_ret
  exact ⟨rfl,hb1⟩
 ·rw [hs] at K1
  rw [abs_minus a hs ha]
  clear hs ha
  generalize fN a = q at *
  go_enter Tryz.func124,Tryz.ntmps124
  go_wp2_with fail
  refine (uH K1 _).mono ?_
  rintro e w1 ⟨rfl,hb1⟩
  clear K1
  go_wp2_with fail
  refine (uH K2 _).mono ?_
  rintro e w2 ⟨rfl,rfl⟩
  clear K2
  go_wp2
  go_ret
  exact ⟨rfl,hb1⟩
def pl (a:Nat):Int:=if fS a = true then -(fR a:Int) else (fR a:Int)
theorem place_of (a r:Nat) (s:Bool) (w:World) (hr:r < 9223372036854775808)
  (C1:∀ w',Calls Tryz.prog 124 #[.int .u64 a] w' fun e w''=>e = .returned (.int .u64 (r:Nat))∧Below w'.heap.size w' w'')
  (C2:∀ w',Calls Tryz.prog 187 #[.int .u64 a] w' fun e w''=>e = .returned (.bool s)∧Below w'.heap.size w' w'') :
  Calls Tryz.prog 219 #[.int .u64 a] w fun e w'=>e = .returned (.int .i64 (if s = true then -(r:Int) else (r:Int)))∧Below w.heap.size w w':=by
 have K1:=hide C1;have K2:=hide C2
 have h1:IntKind.i64.wrap (r:Int) = (r:Int):=by simp only [IntKind.wrap_i64];omega
 have h2:IntKind.i64.wrap (-(r:Int)) = -(r:Int):=by simp only [IntKind.wrap_i64];omega
 clear C1 C2
 cases s
 ·go_enter Tryz.func219,Tryz.ntmps219
  go_wp2_with fail
  refine (uH K1 _).mono ?_
  rintro e w1 ⟨rfl,hb1⟩
  have B1:=hide hb1
  clear K1 hb1
  go_wp2_with fail
  refine (uH K2 _).mono ?_
  rintro e w2 ⟨rfl,hb1⟩
  have B2:=hide ((uH B1).trans (hb1.mono (uH B1).size))
  clear K2 hb1
  go_wp2
  go_ret
  exact ⟨rfl,uH B2⟩
 ·go_enter Tryz.func219,Tryz.ntmps219
  go_wp2_with fail
  refine (uH K1 _).mono ?_
  rintro e w1 ⟨rfl,hb1⟩
  have B1:=hide hb1
  clear K1 hb1
  go_wp2_with fail
  refine (uH K2 _).mono ?_
  rintro e w2 ⟨rfl,hb1⟩
  have B2:=hide ((uH B1).trans (hb1.mono (uH B1).size))
  clear K2 hb1
  go_wp2
  go_ret
  exact ⟨rfl,uH B2⟩
theorem place_any (a:Nat) (w:World) (ha:a < 18446744073709551616) :
  Calls Tryz.prog 219 #[.int .u64 a] w fun e w'=>e = .returned (.int .i64 (pl a))∧Below w.heap.size w w' :=
 place_of a (fR a) (fS a) w (fR_lt a) (fun w'=>cabs_any a w' ha) (fun w'=>ssign_any a w' ha)
theorem isNaNl_any (a:Int) (w:World):Calls Tryz.prog 249 #[.int .i64 a] w fun e w'=>e = .returned (.bool false)∧w = w':=by
 go_enter Tryz.func249,Tryz.ntmps249
 go_wp2
 go_ret
 exact ⟨rfl,rfl⟩
theorem cmpl_any (a b:Int) (w:World):Calls Tryz.prog 218 #[.int .i64 a,.int .i64 b] w fun e w'=>e = .returned (.int .i64 (cmpI a b))∧w = w':=by
 have HE:Hid (cmpI a b = if a < b then -1 else if b < a then 1 else 0):=rfl
 generalize cmpI a b = c at *
 rcases (show a < b ∨ b < a ∨ a = b by omega) with h | h | h
 ·go_enter Tryz.func218,Tryz.ntmps218
  go_wp2_with (go_at_call 249;refine (isNaNl_any _ _).mono ?_;rintro e w' ⟨rfl,rfl⟩)
  go_ret
  exact ⟨ret_int (by rw [HE.out];simp [h]),rfl⟩
 ·have h':¬ a < b:=by omega
  go_enter Tryz.func218,Tryz.ntmps218
  go_wp2_with (go_at_call 249;refine (isNaNl_any _ _).mono ?_;rintro e w' ⟨rfl,rfl⟩)
  go_ret
  exact ⟨ret_int (by rw [HE.out];simp [h,h']),rfl⟩
 ·subst h
  go_enter Tryz.func218,Tryz.ntmps218
  go_wp2_with (go_at_call 249;refine (isNaNl_any _ _).mono ?_;rintro e w' ⟨rfl,rfl⟩)
  go_ret
  exact ⟨ret_int (by rw [HE.out];simp),rfl⟩
def cO (a b:Nat):Int:=if fK a = 4 ∨ fK b = 4 then 0 else cmpI (fZ a) (fZ b)
def cB (a b:Nat):Bool:=if fK a = 4 ∨ fK b = 4 then false else true
theorem rv8_lt {r s:Nat} (h:r < s):rv r < rv s:=Nat.lt_of_lt_of_le (rv_succ r) (rv_mono h)
theorem rv_pos {r:Nat} (h:0 < r):0 < rv r:=by have:=rv8_lt h;rw [rv_zero] at this;exact this
theorem cmpI8_lt {a b:Int} (h:a < b):cmpI a b = -1:=by unfold cmpI;rw [if_pos h]
theorem cmpI8_gt {a b:Int} (h:b < a):cmpI a b = 1:=by unfold cmpI;rw [if_neg (by omega),if_pos h]
theorem cmpI8_eq {a b:Int} (h:a = b):cmpI a b = 0:=by unfold cmpI;rw [if_neg (by omega),if_neg (by omega)]
theorem pv_pl_lt {n m:Bool} {r s:Nat} (h:(if n = true then -(r:Int) else (r:Int)) < (if m = true then -(s:Int) else (s:Int))):pv n r < pv m s:=by
 have z:rv 0 = 0:=rv_zero
 have l1:r < s→rv r < rv s:=rv8_lt
 have l2:s < r→rv s < rv r:=rv8_lt
 have p1:0 < r→0 < rv r:=rv_pos
 have p2:0 < s→0 < rv s:=rv_pos
 unfold pv
 cases n <;> cases m <;> simp only [if_true,if_false,Bool.false_eq_true] at h ⊢ <;> omega
theorem pl_cmp (a b:Nat):cmpI (pl a) (pl b) = cmpI (fZ a) (fZ b):=by
 have h1:pl a < pl b→fZ a < fZ b:=fun h=>pv_pl_lt h
 have h2:pl b < pl a→fZ b < fZ a:=fun h=>pv_pl_lt h
 rcases (show pl a < pl b ∨ pl b < pl a ∨ pl a = pl b by omega) with h | h | h
 ·rw [cmpI8_lt h,cmpI8_lt (h1 h)]
 ·rw [cmpI8_gt h,cmpI8_gt (h2 h)]
 ·have h3:fZ a = fZ b:=by
   unfold pl at h
   unfold fZ pv
   cases ha:fS a <;> cases hb:fS b <;> rw [ha,hb] at h <;> simp only [if_true,if_false,Bool.false_eq_true] at h ⊢
   ·rw [show fR a = fR b by omega]
   ·rw [show fR a = 0 by omega,show fR b = 0 by omega,rv_zero];rfl
   ·rw [show fR a = 0 by omega,show fR b = 0 by omega,rv_zero];rfl
   ·rw [show fR a = fR b by omega]
  rw [cmpI8_eq h,cmpI8_eq h3]
theorem order_n1 (a b:Nat) (w:World)
  (C1:∀ w',Calls Tryz.prog 113 #[.int .u64 a] w' fun r w''=>r = .returned (.int .i64 4)∧Below w'.heap.size w' w'') :
  Calls Tryz.prog 167 #[.int .u64 a,.int .u64 b] w fun r w'=>r = .returned (.tuple #[.int .i64 0,.bool false])∧Below w.heap.size w w':=by
 have K1:=hide C1
 clear C1
 go_enter Tryz.func167,Tryz.ntmps167
 go_wp2_with fail
 refine (uH K1 _).mono ?_
 rintro e w1 ⟨rfl,hb1⟩
 clear K1
 go_wp2
 exact bodyPost_ret (v:=.tuple #[.int .i64 0,.bool false]) (by simp [results,Tryz.results167,go_sem]) rfl ⟨rfl,hb1⟩
theorem order_n2 (a b:Nat) (ka:Int) (w:World) (h4:(ka == 4) = false)
  (C1:∀ w',Calls Tryz.prog 113 #[.int .u64 a] w' fun r w''=>r = .returned (.int .i64 ka)∧Below w'.heap.size w' w'')
  (C2:∀ w',Calls Tryz.prog 113 #[.int .u64 b] w' fun r w''=>r = .returned (.int .i64 4)∧Below w'.heap.size w' w'') :
  Calls Tryz.prog 167 #[.int .u64 a,.int .u64 b] w fun r w'=>r = .returned (.tuple #[.int .i64 0,.bool false])∧Below w.heap.size w w':=by
 have K1:=hide C1;have K2:=hide C2
 clear C1 C2
 go_enter Tryz.func167,Tryz.ntmps167
 go_wp2_with fail
 refine (uH K1 _).mono ?_
 rintro e w1 ⟨rfl,hb1⟩
 clear K1
 have B1:=hide hb1
 clear hb1
 go_wp2_with fail
 refine (uH K2 _).mono ?_
 rintro e w2 ⟨rfl,hb1⟩
 have B2:=hide ((uH B1).trans (hb1.mono (uH B1).size))
 clear hb1 K2
 go_wp2
 exact bodyPost_ret (v:=.tuple #[.int .i64 0,.bool false]) (by simp [results,Tryz.results167,go_sem]) rfl ⟨rfl,uH B2⟩
theorem order_f (a b:Nat) (ka kb x y o:Int) (w:World) (h4:(ka == 4) = false) (g4:(kb == 4) = false)
  (C1:∀ w',Calls Tryz.prog 113 #[.int .u64 a] w' fun r w''=>r = .returned (.int .i64 ka)∧Below w'.heap.size w' w'')
  (C2:∀ w',Calls Tryz.prog 113 #[.int .u64 b] w' fun r w''=>r = .returned (.int .i64 kb)∧Below w'.heap.size w' w'')
  (C3:∀ w',Calls Tryz.prog 219 #[.int .u64 a] w' fun r w''=>r = .returned (.int .i64 x)∧Below w'.heap.size w' w'')
  (C4:∀ w',Calls Tryz.prog 219 #[.int .u64 b] w' fun r w''=>r = .returned (.int .i64 y)∧Below w'.heap.size w' w'')
  (C5:∀ w',Calls Tryz.prog 218 #[.int .i64 x,.int .i64 y] w' fun r w''=>r = .returned (.int .i64 o)∧w' = w'') :
  Calls Tryz.prog 167 #[.int .u64 a,.int .u64 b] w fun r w'=>r = .returned (.tuple #[.int .i64 o,.bool true])∧Below w.heap.size w w':=by
 have K1:=hide C1;have K2:=hide C2;have K3:=hide C3;have K4:=hide C4;have K5:=hide C5
 clear C1 C2 C3 C4 C5
 go_enter Tryz.func167,Tryz.ntmps167
 go_wp2_with fail
 refine (uH K1 _).mono ?_
 rintro e w1 ⟨rfl,hb1⟩
 have B1:=hide hb1
 clear hb1 K1
 go_wp2_with fail
 refine (uH K2 _).mono ?_
 rintro e w2 ⟨rfl,hb1⟩
 have B2:=hide ((uH B1).trans (hb1.mono (uH B1).size))
 clear hb1 K2
 go_wp2_with fail
 refine (uH K3 _).mono ?_
 rintro e w3 ⟨rfl,hb1⟩
 have B3:=hide ((uH B2).trans (hb1.mono (uH B2).size))
 clear hb1 K3
 go_wp2_with fail
 refine (uH K4 _).mono ?_
 rintro e w4 ⟨rfl,hb1⟩
 have B4:=hide ((uH B3).trans (hb1.mono (uH B3).size))
 clear hb1 K4
 go_wp2_with fail
 refine (uH K5 _).mono ?_
 rintro e w5 ⟨rfl,rfl⟩
 clear K5
 go_wp2
 exact bodyPost_ret (v:=.tuple #[.int .i64 o,.bool true]) (by simp [results,Tryz.results167,go_sem]) rfl ⟨rfl,uH B4⟩
theorem corder_any (a b:Nat) (w:World) (ha:a < 18446744073709551616) (hb:b < 18446744073709551616) :
  Calls Tryz.prog 167 #[.int .u64 a,.int .u64 b] w fun r w'=>r = .returned (.tuple #[.int .i64 (cO a b),.bool (cB a b)])∧Below w.heap.size w w':=by
 have C1:=fun w'=>kind_any a w' ha
 have C2:=fun w'=>kind_any b w' hb
 unfold cO cB
 by_cases a4:fK a = 4
 ·rw [if_pos (Or.inl a4),if_pos (Or.inl a4)]
  rw [a4] at C1
  exact order_n1 a b w C1
 by_cases b4:fK b = 4
 ·rw [if_pos (Or.inr b4),if_pos (Or.inr b4)]
  rw [b4] at C2
  exact order_n2 a b _ w (by simp [a4]) C1 C2
 have h:¬ (fK a = 4 ∨ fK b = 4):=fun h=>h.elim a4 b4
 rw [if_neg h,if_neg h,← pl_cmp]
 exact order_f a b _ _ _ _ _ w (by simp [a4]) (by simp [b4]) C1 C2 (fun w'=>place_any a w' ha) (fun w'=>place_any b w' hb) (fun w'=>cmpl_any _ _ w')
theorem less_of (a b:Nat) (o:Int) (t l q:Bool) (w:World) (hw:(o = 0∧t = false∧l = false∧q = false) ∨ (o = -1∧t = true∧l = true∧q = false) ∨ (o = 0∧t = true∧l = false∧q = true) ∨ (o = 1∧t = true∧l = false∧q = false))
  (C1:∀ w',Calls Tryz.prog 167 #[.int .u64 a,.int .u64 b] w' fun r w''=>r = .returned (.tuple #[.int .i64 o,.bool t])∧Below w'.heap.size w' w'') :
  Calls Tryz.prog 98 #[.int .u64 a,.int .u64 b] w fun r w'=>r = .returned (.bool l)∧Below w.heap.size w w':=by
 have K1:=hide C1
 clear C1
 rcases hw with ⟨rfl,rfl,rfl,rfl⟩ | ⟨rfl,rfl,rfl,rfl⟩ | ⟨rfl,rfl,rfl,rfl⟩ | ⟨rfl,rfl,rfl,rfl⟩
 all_goals
  go_enter Tryz.func98,Tryz.ntmps98
  go_wp2_with fail
  refine (uH K1 _).mono ?_
  rintro e w1 ⟨rfl,hb1⟩
  clear K1
  go_wp2
  go_ret
  exact ⟨rfl,hb1⟩
def cM (a b:Nat) (l t:Bool):Nat:=if t = false then 9221120237041090560 else if l = true then b else a
theorem max_of (a b:Nat) (o:Int) (t l q:Bool) (w:World) (hw:(o = 0∧t = false∧l = false∧q = false) ∨ (o = -1∧t = true∧l = true∧q = false) ∨ (o = 0∧t = true∧l = false∧q = true) ∨ (o = 1∧t = true∧l = false∧q = false))
  (C1:∀ w',Calls Tryz.prog 167 #[.int .u64 a,.int .u64 b] w' fun r w''=>r = .returned (.tuple #[.int .i64 o,.bool t])∧Below w'.heap.size w' w'') :
  Calls Tryz.prog 186 #[.int .u64 a,.int .u64 b] w fun r w'=>r = .returned (.int .u64 (cM a b l t:Nat))∧Below w.heap.size w w':=by
 have K1:=hide C1
 clear C1
 unfold cM
 rcases hw with ⟨rfl,rfl,rfl,rfl⟩ | ⟨rfl,rfl,rfl,rfl⟩ | ⟨rfl,rfl,rfl,rfl⟩ | ⟨rfl,rfl,rfl,rfl⟩
 all_goals
  simp only [if_true,if_false,Bool.false_eq_true,Bool.true_eq_false]
  go_enter Tryz.func186,Tryz.ntmps186
  go_wp2_with fail
  refine (uH K1 _).mono ?_
  rintro e w1 ⟨rfl,hb1⟩
  clear K1
  go_wp2
  go_ret
  exact ⟨rfl,hb1⟩
theorem rmax_of (a b:Nat) (o:Int) (t l q:Bool) (w:World) (hw:(o = 0∧t = false∧l = false∧q = false) ∨ (o = -1∧t = true∧l = true∧q = false) ∨ (o = 0∧t = true∧l = false∧q = true) ∨ (o = 1∧t = true∧l = false∧q = false))
  (C1:∀ w',Calls Tryz.prog 52 #[.int .u64 a,.int .u64 b] w' fun r w''=>r = .returned (.tuple #[.int .i64 o,.bool t])∧Below w'.heap.size w' w'') :
  Calls Tryz.prog 159 #[.int .u64 a,.int .u64 b] w fun r w'=>r = .returned (.int .u64 (cM a b l t:Nat))∧Below w.heap.size w w':=by
 have K1:=hide C1
 clear C1
 unfold cM
 rcases hw with ⟨rfl,rfl,rfl,rfl⟩ | ⟨rfl,rfl,rfl,rfl⟩ | ⟨rfl,rfl,rfl,rfl⟩ | ⟨rfl,rfl,rfl,rfl⟩
 all_goals
  simp only [if_true,if_false,Bool.false_eq_true,Bool.true_eq_false]
  go_enter Tryz.func159,Tryz.ntmps159
  go_wp2_with fail
  refine (uH K1 _).mono ?_
  rintro e w1 ⟨rfl,hb1⟩
  clear K1
  go_wp2
  go_ret
  exact ⟨rfl,hb1⟩
end Go.Proofs.YtdhmglmccafbnaaGreatDoor
namespace Go.Proofs.YtdhmglmccafbnaaGreatDoor
open Go.RowKit
theorem lng_step (X y:Nat) (hy:0 < y):X * 2 / (2 * y) = 2 * (X / (2 * y))+(if y≤X % (2 * y) then 1 else 0)∧X * 2 % (2 * y) = 2 * (X % (2 * y) - (if y≤X % (2 * y) then y else 0)):=by
 have h1:=Nat.div_add_mod X (2 * y)
 have h2:=Nat.mod_lt X (show 0 < 2 * y by omega)
 generalize X / (2 * y) = q at *
 generalize X % (2 * y) = r at *
 have e0:X * 2 = 2 * y * (2 * q)+2 * r:=by rw [← h1,Nat.add_mul,Nat.mul_assoc,Nat.mul_comm q 2,Nat.mul_comm r 2]
 by_cases c:y≤r
 ·rw [if_pos c,if_pos c]
  have e:X * 2 = 2 * y * (2 * q+1)+2 * (r - y):=by rw [Nat.mul_add,Nat.mul_one];omega
  rw [e]
  refine ⟨?_,?_⟩
  ·rw [Nat.mul_add_div (by omega),Nat.div_eq_of_lt (by omega),Nat.add_zero]
  ·rw [Nat.mul_add_mod,Nat.mod_eq_of_lt (by omega)]
 ·rw [if_neg c,if_neg c]
  rw [e0]
  refine ⟨?_,?_⟩
  ·rw [Nat.mul_add_div (by omega),Nat.div_eq_of_lt (by omega),Nat.add_zero]
  ·rw [Nat.mul_add_mod,Nat.mod_eq_of_lt (by omega)];omega
def lQ (x y i:Nat):Nat:=x * 2 ^ i / (2 * y)
def lR (x y i:Nat):Nat:=x * 2 ^ i % (2 * y)
theorem l_zero (x y:Nat) (h:x < 2 * y):lQ x y 0 = 0∧lR x y 0 = x:=by
 unfold lQ lR
 rw [Nat.pow_zero,Nat.mul_one]
 exact ⟨Nat.div_eq_of_lt h,Nat.mod_eq_of_lt h⟩
theorem l_succ (x y i:Nat) (hy:0 < y):lQ x y (i+1) = 2 * lQ x y i+(if y≤lR x y i then 1 else 0)∧lR x y (i+1) = 2 * (lR x y i - (if y≤lR x y i then y else 0)):=by
 have:=lng_step (x * 2 ^ i) y hy
 unfold lQ lR
 rw [Nat.pow_succ,← Nat.mul_assoc]
 exact this
theorem lR_lt (x y i:Nat) (hy:0 < y):lR x y i < 2 * y:=Nat.mod_lt _ (by omega)
theorem lQ_lt (x y i:Nat) (h:x < 2 * y):lQ x y i < 2 ^ i:=by
 unfold lQ
 rw [Nat.div_lt_iff_lt_mul (by omega),Nat.mul_comm (2 ^ i)]
 exact (Nat.mul_lt_mul_right (Nat.two_pow_pos i)).2 h
theorem l_end (x y:Nat):stk (x * 2 ^ 54) y = 2 * lQ x y 55+(if 0 < lR x y 55 then 1 else 0):=by
 have e:x * 2 ^ 55 = 2 * (x * 2 ^ 54):=by rw [show (2:Nat) ^ 55 = 2 * 2 ^ 54 by decide];ac_rfl
 unfold stk lQ lR
 rw [e,Nat.mul_div_mul_left _ _ (by decide),Nat.mul_mod_mul_left]
 congr 1
 by_cases c:x * 2 ^ 54 % y = 0
 ·rw [if_pos c,c,if_neg (by omega)]
 ·rw [if_neg c,if_pos (by omega)]
def dS (b:Nat):Nat:=(fD b).natAbs * 2 ^ (53 - bl (fD b).natAbs)
def dT (b:Nat):Int:=(bl (fD b).natAbs:Int)+fX b
theorem dS_facts (b:Nat) (hb:b < 18446744073709551616) (hf:fFin b = true) (h0:fK b ≠ 0) :
  bl (fD b).natAbs≤53∧1≤bl (fD b).natAbs∧4503599627370496≤dS b∧dS b < 9007199254740992∧-1074≤fX b∧fX b≤1024∧(fD b).natAbs % 2 = 1∧(fD b).natAbs < 9007199254740992:=by
 obtain ⟨β,x1,x2,x3,x4⟩:=odd_mag b hb hf h0
 have hne:(fD b).natAbs ≠ 0:=by omega
 obtain ⟨b1,b2,b3⟩:=bl_spec _ hne
 have hbl:bl (fD b).natAbs≤53:=by
  have:(2:Nat) ^ (bl (fD b).natAbs - 1) < 2 ^ 53:=by rw [p53];omega
  have:=pow_lt_of this
  omega
 have hs:=bl_scale (fD b).natAbs (53 - bl (fD b).natAbs) hne
 have hs':bl (dS b) = 53:=by unfold dS;rw [hs];omega
 have hd0:dS b ≠ 0:=by
  unfold dS
  exact Nat.mul_ne_zero hne (Nat.pos_iff_ne_zero.1 (Nat.two_pow_pos _))
 obtain ⟨c1,c2,c3⟩:=bl_spec _ hd0
 rw [hs'] at c2 c3
 have hz:=fZ_lt b hf
 rw [fZ_abs,x2] at hz
 have hβ:β < 2098:=by
  have h1:2 ^ β≤(fD b).natAbs * 2 ^ β:=Nat.le_mul_of_pos_left _ (by omega)
  exact pow_lt_of (Nat.lt_of_le_of_lt h1 hz)
 refine ⟨hbl,b1,?_,?_,by omega,by omega,x3,x4⟩
 ·exact c2
 ·rw [p53] at c3;exact c3
def pS (a b:Nat):Nat:=stk (dS a * 2 ^ 54) (dS b)
theorem quo_prog (a b:Nat) (ha:a < 18446744073709551616) (hb:b < 18446744073709551616) (fa:fFin a = true) (fb:fFin b = true) (a0:fK a ≠ 0) (b0:fK b ≠ 0) :
  rnd (pS a b) (dT a - dT b - 55) = qV a b∧rflag (oM (pS a b:Nat)).natAbs (oE (pS a b:Nat) (dT a - dT b - 55)) = qF a b:=by
 obtain ⟨x1,x2,x3,x4,x5,x6,x7,x8⟩:=dS_facts a ha fa a0
 obtain ⟨y1,y2,y3,y4,y5,y6,y7,y8⟩:=dS_facts b hb fb b0
 have hbig:=quo_big (fD a).natAbs (fD b).natAbs (by omega) y8 (by omega)
 obtain ⟨u1,u2,u3⟩:=bl_spec (fD a).natAbs (by omega)
 obtain ⟨v1,v2,v3⟩:=bl_spec (fD b).natAbs (by omega)
 unfold pS qV qF qS dS dT
 generalize (fD a).natAbs = oa at *
 generalize (fD b).natAbs = ob at *
 have e1:oa * 2 ^ (53 - bl oa) * 2 ^ 54 = oa * 2 ^ (54 - bl oa+bl ob) * 2 ^ (53 - bl ob):=by
  rw [Nat.mul_assoc,← Nat.pow_add,Nat.mul_assoc,← Nat.pow_add]
  congr 2
  omega
 have hb54:54 - bl oa+bl ob = 54+bl ob - bl oa:=by omega
 rw [e1,stk_both]
 have hq:9007199254740992≤oa * 2 ^ (54 - bl oa+bl ob) / ob:=by
  rw [Nat.le_div_iff_mul_le (by omega)]
  have h1:9007199254740992 * ob≤2 ^ 53 * 2 ^ bl ob:=by rw [p53];exact Nat.mul_le_mul_left _ (by omega)
  have h2:(2:Nat) ^ 53 * 2 ^ bl ob≤2 ^ (bl oa - 1) * 2 ^ (54 - bl oa+bl ob):=by
   rw [← Nat.pow_add,← Nat.pow_add];exact pow_le2 (by omega)
  have h3:2 ^ (bl oa - 1) * 2 ^ (54 - bl oa+bl ob)≤oa * 2 ^ (54 - bl oa+bl ob):=Nat.mul_le_mul_right _ u2
  omega
 have E1:(bl oa:Int)+fX a - ((bl ob:Int)+fX b) - 55 = (fX a - fX b - 1) - (54 - bl oa+bl ob:Nat):=by omega
 have E2:fX a - fX b - 181 = (fX a - fX b - 1) - (180:Nat):=by omega
 rw [E1,E2]
 exact ⟨stk_any oa ob _ 180 _ (by omega) hq hbig,stk_any_flag oa ob _ 180 _ y7 hq hbig⟩
theorem pS_facts (a b:Nat) (ha:a < 18446744073709551616) (hb:b < 18446744073709551616) (fa:fFin a = true) (fb:fFin b = true) (a0:fK a ≠ 0) (b0:fK b ≠ 0):pS a b ≠ 0∧pS a b < 144115188075855872∧dS a < 2 * dS b:=by
 obtain ⟨x1,x2,x3,x4,x5,x6,x7,x8⟩:=dS_facts a ha fa a0
 obtain ⟨y1,y2,y3,y4,y5,y6,y7,y8⟩:=dS_facts b hb fb b0
 have h:=l_end (dS a) (dS b)
 have h1:=lQ_lt (dS a) (dS b) 55 (by omega)
 have h2:(2:Nat) ^ 55 = 36028797018963968:=by decide
 have ht:(if 0 < lR (dS a) (dS b) 55 then 1 else 0)≤1:=by split <;> omega
 refine ⟨?_,?_,by omega⟩
 ·have:1≤dS a * 2 ^ 54 / dS b:=by
   rw [Nat.le_div_iff_mul_le (by omega),Nat.one_mul]
   have:dS a * 1≤dS a * 2 ^ 54:=Nat.mul_le_mul_left _ (by decide)
   have h5:dS a * 2≤dS a * 2 ^ 54:=Nat.mul_le_mul_left _ (by decide)
   omega
  unfold pS stk
  omega
 ·show stk (dS a * 2 ^ 54) (dS b) < _
  rw [h];omega
end Go.Proofs.YtdhmglmccafbnaaGreatDoor
namespace Go.Proofs.YtdhmglmccafbnaaGreatDoor
open Go.RowKit
theorem fZ_neg8 (b:Nat) (h0:fK b ≠ 0):fZ b ≠ 0∧decide (fZ b < 0) = fS b:=by
 have hr:fR b ≠ 0:=fun e=>h0 ((fK_zero b).2 e)
 have hp:0 < rv (fR b):=rv_pos (by omega)
 unfold fZ pv
 cases fS b
 ·simp only [Bool.false_eq_true,if_false]
  exact ⟨by omega,decide_eq_false (by omega)⟩
 ·simp only [if_true]
  exact ⟨by omega,decide_eq_true (by omega)⟩
theorem sc_facts (a:Nat) (ha:a < 18446744073709551616) (fa:fFin a = true) (a0:fK a ≠ 0) :
  fD a % 2 = 1∧(fD a).natAbs < 9007199254740992∧(fD a).natAbs ≠ 0∧decide (fD a < 0) = fS a∧-1074≤fX a∧fX a≤1024∧1≤bl (fD a).natAbs∧(bl (fD a).natAbs:Int)+fX a≤1024∧rnd (rv (fR a)) (-1074) = rnd (fD a).natAbs (fX a):=by
 obtain ⟨β,x1,x2,x3,x4⟩:=odd_mag a ha fa a0
 obtain ⟨y1,y2,y3,y4,y5,y6,y7,y8⟩:=dS_facts a ha fa a0
 obtain ⟨d1,d2⟩:=fZ_level a ha fa
 obtain ⟨n1,n2⟩:=fZ_neg8 a a0
 have hne:(fD a).natAbs ≠ 0:=by omega
 have hb:bl (rv (fR a)) = bl (fD a).natAbs+β:=by rw [x2];exact bl_scale _ _ hne
 have hlt:=fZ_lt a fa
 rw [fZ_abs] at hlt
 have hne2:rv (fR a) ≠ 0:=by rw [← fZ_abs];omega
 have hb2:bl (rv (fR a))≤2098:=by
  obtain ⟨b1,b2,b3⟩:=bl_spec _ hne2
  have:=pow_lt_of (Nat.lt_of_le_of_lt b2 hlt)
  omega
 refine ⟨by omega,x4,hne,?_,y5,y6,y2,by omega,?_⟩
 ·rw [← d1,oM_sign];exact n2
 ·rw [x2,x1,rnd_scale]
theorem scale_clampC (C:Int) (hC:2098 < C) (v:Nat) (E n:Int) (hv:v ≠ 0) (h1:(bl v:Int)+E≤1024) (h2:-1074≤(bl v:Int)+E) :
  rnd v (E+n) = rnd v (E+max (-C) (min C n))∧rflag v (E+n) = rflag v (E+max (-C) (min C n)):=by
 rcases Int.lt_or_le C n with h | h
 ·have a:=rnd_high hv (E:=E+n) (by omega)
  have b:=rnd_high hv (E:=E+max (-C) (min C n)) (by omega)
  rw [a.1,a.2,b.1,b.2]
  exact ⟨rfl,rfl⟩
 ·rcases Int.lt_or_le n (-C) with g | g
  ·have a:=rnd_low hv (E:=E+n) (by omega)
   have b:=rnd_low hv (E:=E+max (-C) (min C n)) (by omega)
   rw [a.1,a.2,b.1,b.2]
   exact ⟨rfl,rfl⟩
  ·rw [show max (-C) (min C n) = n by omega]
   exact ⟨rfl,rfl⟩
def xV (a:Nat) (n:Int):Nat:=if fK a = 4 then 9221120237041090560 else if fK a = 3 ∨ fK a = 0 then a else wrd (fS a) (rnd (fD a).natAbs (fX a+n))
def xF (a:Nat) (n:Int):Int:=if fK a = 4 then 0 else if fK a = 3 ∨ fK a = 0 then 0 else rflag (fD a).natAbs (fX a+n)
theorem xV_lt (a:Nat) (n:Int) (ha:a < 18446744073709551616):xV a n < 18446744073709551616:=by
 unfold xV
 have:=rnd_le (fD a).natAbs (fX a+n)
 repeat' split
 ·decide
 ·exact ha
 ·exact wrd_lt _ _ (by omega)
theorem xV_clamp (C:Int) (hC:2098 < C) (a:Nat) (n:Int) (ha:a < 18446744073709551616):xV a (max (-C) (min C n)) = xV a n∧xF a (max (-C) (min C n)) = xF a n:=by
 unfold xV xF
 by_cases a4:fK a = 4
 ·rw [if_pos a4,if_pos a4,if_pos a4,if_pos a4];exact ⟨rfl,rfl⟩
 by_cases a3:fK a = 3 ∨ fK a = 0
 ·rw [if_neg a4,if_neg a4,if_neg a4,if_neg a4,if_pos a3,if_pos a3,if_pos a3,if_pos a3];exact ⟨rfl,rfl⟩
 ·rw [if_neg a4,if_neg a4,if_neg a4,if_neg a4,if_neg a3,if_neg a3,if_neg a3,if_neg a3]
  obtain ⟨z1,z2,z3,z4,z5,z6,z7,z8,z9⟩:=sc_facts a ha (fin_of a (by omega) a4) (by omega)
  have:=scale_clampC C hC _ _ n z3 z8 (by omega)
  rw [this.1,this.2]
  exact ⟨rfl,rfl⟩
theorem odd_dRt {D E:Int} (h:D % 2 = 1) (hE:-16384≤E∧E≤16384):dRt D E = true:=by
 unfold dRt
 rw [if_neg (by omega),decide_eq_true h,decide_eq_true hE];rfl
theorem odd8_oM {D:Int} (h:D % 2 = 1):oM D = D∧∀ e,oE D e = e:=by
 have h0:D ≠ 0:=by omega
 have h1:=oM_ne D h0
 have:=(oddOf D h0).unique (m':=D) (k':=0) ⟨by simp,h⟩
 refine ⟨this.1,fun e=>?_⟩
 rw [oE_ne _ _ h0,this.2];simp
theorem odd_tz {D:Int} (h:D % 2 = 1):tz D.natAbs = 0:=by
 have h0:D ≠ 0:=by omega
 exact ((oddOf D h0).unique (m':=D) (k':=0) ⟨by simp,h⟩).2
theorem dscaleN {w:World} {v:Value} {D X:Int} (n:Int) (hv:IsDy w v D X) (h1:D % 2 = 1) (h2:D.natAbs < 9007199254740992) (h3:-1074≤X∧X≤1024) (h4:-5000≤n∧n≤5000) (hT:Tab w) :
  Calls Tryz.prog 250 #[v,.int .i64 n] w fun r w'=>DyR w' r 0 D (X+n)∧Below w.heap.size w w':=by
 obtain ⟨na,ao,ca,A,rfl,a1,a2,a3,a4,a5⟩:=hv.right (small_TOP _ (by omega))
 have:=dscale_right na ao ca A X n w a1 (a5.trans (odd_dRt h1 (by omega))) (by omega) hT
 have hok:dOk D (X+n) = true:=by
  unfold dOk
  rw [odd_tz h1,decide_eq_true (show -32768≤X+n∧X+n≤32768 by omega),decide_eq_true (show -16384≤X+n+((0:Nat):Int)∧X+n+((0:Nat):Int)≤16384 by omega),Bool.or_true]
  rfl
 rw [a3] at this
 unfold dErr dM dX at this
 rw [hok,if_pos rfl,if_pos rfl,if_pos rfl,(odd8_oM h1).1,(odd8_oM h1).2] at this
 exact this
theorem scaleFinite_of (a o:Nat) (n D X Y fl:Int) (w:World) (hT:Tab w)
  (C1:∀ w',Tab w'→Calls Tryz.prog 207 #[.int .u64 a] w' fun r w''=>DyR w'' r 0 D X∧Below w'.heap.size w' w'')
  (C2:∀ w' v,Tab w'→IsDy w' v D X→Calls Tryz.prog 250 #[v,.int .i64 n] w' fun r w''=>DyR w'' r 0 D Y∧Below w'.heap.size w' w'')
  (C3:∀ w' v,Tab w'→IsDy w' v D Y→Calls Tryz.prog 251 #[v] w' fun r w''=>r = .returned (.tuple #[.int .u64 (o:Nat),.int .u8 fl,.int .i64 0])∧Below w'.heap.size w' w'') :
  Calls Tryz.prog 220 #[.int .u64 a,.int .i64 n] w fun r w'=>r = .returned (.tuple #[.int .u64 (o:Nat),.int .u8 fl])∧Below w.heap.size w w':=by
 have K1:=hide C1;have K2:=hide C2;have K3:=hide C3;have HT:=hide hT
 clear C1 C2 C3 hT
 go_enter Tryz.func220,Tryz.ntmps220
 go_wp2_with fail
 refine (uH K1 _ (uH HT)).mono ?_
 rintro e w1 ⟨⟨v,rfl,hv⟩,hb1⟩
 obtain ⟨n1,a1,c1,L1,rfl,i1⟩:=hv
 have hb1a:Below w1.heap.size w1 (w1.alloc (.cells #[.bool n1,.slice a1 L1.length c1,.int .i64 X] 41)):=(Below.refl _ _).alloc (Nat.le_refl _) _
 have HX:=hide ((show IsDy w1 (.agg #[.bool n1,.slice a1 L1.length c1,.int .i64 X]) D X from ⟨n1,a1,c1,L1,rfl,i1⟩).below hb1a)
 have B1:=hide (hb1.trans (hb1a.mono hb1.size))
 have x3:=Box3.new w1 (.bool n1) (.slice a1 L1.length c1) (.int .i64 X)
 have y0:=x3.c0;have y1:=x3.c1;have y2:=x3.c2
 clear i1 hb1 hb1a K1 x3
 generalize L1.length = l1 at *
 go_wp2_with fail
 refine (uH K2 _ _ ((uH HT).all (uH B1)) (uH HX)).mono ?_
 rintro e w2 ⟨⟨v,rfl,hv⟩,hb1⟩
 obtain ⟨n2,a2,c2,L2,rfl,i2⟩:=hv
 have hb1a:Below w2.heap.size w2 (w2.alloc (.cells #[.bool n2,.slice a2 L2.length c2,.int .i64 Y] 41)):=(Below.refl _ _).alloc (Nat.le_refl _) _
 have HY:=hide ((show IsDy w2 (.agg #[.bool n2,.slice a2 L2.length c2,.int .i64 Y]) D Y from ⟨n2,a2,c2,L2,rfl,i2⟩).below hb1a)
 have B2:=hide ((uH B1).trans ((hb1.trans (hb1a.mono hb1.size)).mono (uH B1).size))
 have x3:=Box3.new w2 (.bool n2) (.slice a2 L2.length c2) (.int .i64 Y)
 have z0:=x3.c0;have z1:=x3.c1;have z2:=x3.c2
 clear i2 hb1 hb1a K2 x3 y0 y1 y2 HX B1
 generalize L2.length = l2 at *
 go_wp2_with fail
 refine (uH K3 _ _ ((uH HT).all (uH B2)) (uH HY)).mono ?_
 rintro e w3 ⟨rfl,hb1⟩
 have B3:=hide ((uH B2).trans (hb1.mono (uH B2).size))
 clear hb1 K3 B2 z0 z1 z2 HY
 go_wp2
 exact bodyPost_ret (v:=.tuple #[.int .u64 o,.int .u8 fl]) (by simp [results,Tryz.results220,go_sem]) rfl ⟨rfl,uH B3⟩
theorem scaleFinite_any (a:Nat) (n:Int) (w:World) (ha:a < 18446744073709551616) (fa:fFin a = true) (a0:fK a ≠ 0) (hn:-5000≤n∧n≤5000) (hT:Tab w) :
  Calls Tryz.prog 220 #[.int .u64 a,.int .i64 n] w fun r w'=>r = .returned (.tuple #[.int .u64 (wrd (fS a) (rnd (fD a).natAbs (fX a+n)):Nat),.int .u8 (rflag (fD a).natAbs (fX a+n))])∧Below w.heap.size w w':=by
 obtain ⟨z1,z2,z3,z4,z5,z6,z7,z8,z9⟩:=sc_facts a ha fa a0
 have C3:∀ w' v,Tab w'→IsDy w' v (fD a) (fX a+n)→_:=fun w' v t hv=>round_dy hv (small_TOP _ (by omega)) (odd_dRt z1 (by omega)) t
 rw [z4] at C3
 exact scaleFinite_of a _ n (fD a) (fX a) (fX a+n) _ w hT (fun w' t=>value_some a w' ha fa t) (fun w' v t hv=>dscaleN n hv z1 z2 (by omega) hn t) C3
theorem scale_n (a:Nat) (n:Int) (w:World)
  (C1:∀ w',Calls Tryz.prog 113 #[.int .u64 a] w' fun r w''=>r = .returned (.int .i64 4)∧Below w'.heap.size w' w'') :
  Calls Tryz.prog 168 #[.int .u64 a,.int .i64 n] w fun r w'=>r = .returned (.tuple #[.int .u64 9221120237041090560,.int .u8 0])∧Below w.heap.size w w':=by
 have K1:=hide C1
 clear C1
 go_enter Tryz.func168,Tryz.ntmps168
 go_wp2_with fail
 refine (uH K1 _).mono ?_
 rintro e w1 ⟨rfl,hb1⟩
 clear K1
 go_wp2
 exact bodyPost_ret (v:=.tuple #[.int .u64 9221120237041090560,.int .u8 0]) (by simp [results,Tryz.results168,go_sem]) rfl ⟨rfl,hb1⟩
theorem scale_iz (a:Nat) (n k:Int) (w:World) (hk:k = 3 ∨ k = 0)
  (C1:∀ w',Calls Tryz.prog 113 #[.int .u64 a] w' fun r w''=>r = .returned (.int .i64 k)∧Below w'.heap.size w' w'') :
  Calls Tryz.prog 168 #[.int .u64 a,.int .i64 n] w fun r w'=>r = .returned (.tuple #[.int .u64 (a:Nat),.int .u8 0])∧Below w.heap.size w w':=by
 have K1:=hide C1
 clear C1
 rcases hk with rfl | rfl
 ·go_enter Tryz.func168,Tryz.ntmps168
  go_wp2_with fail
  refine (uH K1 _).mono ?_
  rintro e w1 ⟨rfl,hb1⟩
  clear K1
  go_wp2
  exact bodyPost_ret (v:=.tuple #[.int .u64 (a:Nat),.int .u8 0]) (by simp [results,Tryz.results168,go_sem]) rfl ⟨rfl,hb1⟩
 ·go_enter Tryz.func168,Tryz.ntmps168
  go_wp2_with fail
  refine (uH K1 _).mono ?_
  rintro e w1 ⟨rfl,hb1⟩
  clear K1
  go_wp2
  exact bodyPost_ret (v:=.tuple #[.int .u64 (a:Nat),.int .u8 0]) (by simp [results,Tryz.results168,go_sem]) rfl ⟨rfl,hb1⟩
theorem min2_run (P:Program) (w:World) (ts:Array TypeId) (t:TypeId) (x y:Int):(Builtin.min_ ts t #[.int .i64 x,.int .i64 y]).run P w = .ok (.int .i64 (min x y)) w:=by
 rw [run_min_int2]
 congr 2
 split <;> omega
theorem scale_f (a o:Nat) (n k m c fl:Int) (w:World) (h4:(k == 4) = false) (h3:(k == 3) = false) (h0:(k == 0) = false) (hT:Tab w)
  (hM:∀ W ts t,(Builtin.max_ ts t #[.int .i64 n,.int .i64 (-4096)]).run Tryz.prog W = .ok (.int .i64 m) W)
  (hN:∀ W ts t,(Builtin.min_ ts t #[.int .i64 m,.int .i64 4096]).run Tryz.prog W = .ok (.int .i64 c) W)
  (C1:∀ w',Calls Tryz.prog 113 #[.int .u64 a] w' fun r w''=>r = .returned (.int .i64 k)∧Below w'.heap.size w' w'')
  (C2:∀ w',Tab w'→Calls Tryz.prog 220 #[.int .u64 a,.int .i64 c] w' fun r w''=>r = .returned (.tuple #[.int .u64 (o:Nat),.int .u8 fl])∧Below w'.heap.size w' w'') :
  Calls Tryz.prog 168 #[.int .u64 a,.int .i64 n] w fun r w'=>r = .returned (.tuple #[.int .u64 (o:Nat),.int .u8 fl])∧Below w.heap.size w w':=by
 have K1:=hide C1;have K2:=hide C2;have HT:=hide hT
 clear C1 C2 hT
 go_enter Tryz.func168,Tryz.ntmps168
 go_wp2_with fail
 refine (uH K1 _).mono ?_
 rintro e w1 ⟨rfl,hb1⟩
 have B1:=hide hb1
 clear K1 hb1
 go_wp2_with fail
 refine (uH K2 _ ((uH HT).all (uH B1))).mono ?_
 rintro e w2 ⟨rfl,hb1⟩
 have B2:=hide ((uH B1).trans (hb1.mono (uH B1).size))
 clear K2 hb1 B1 HT
 go_wp2
 exact bodyPost_ret (v:=.tuple #[.int .u64 (o:Nat),.int .u8 fl]) (by simp [results,Tryz.results168,go_sem]) rfl ⟨rfl,uH B2⟩
theorem cscale_any (a:Nat) (n:Int) (w:World) (ha:a < 18446744073709551616) (hT:Tab w) :
  Calls Tryz.prog 168 #[.int .u64 a,.int .i64 n] w fun r w'=>r = .returned (.tuple #[.int .u64 (xV a n:Nat),.int .u8 (xF a n)])∧Below w.heap.size w w':=by
 have C1:=fun w'=>kind_any a w' ha
 by_cases a4:fK a = 4
 ·unfold xV xF
  rw [if_pos a4,if_pos a4]
  rw [a4] at C1
  exact scale_n a n w C1
 by_cases a3:fK a = 3 ∨ fK a = 0
 ·unfold xV xF
  rw [if_neg a4,if_neg a4,if_pos a3,if_pos a3]
  exact scale_iz a n _ w a3 C1
 ·have fa:=fin_of a (by omega) a4
  have e:=xV_clamp 4096 (by decide) a n ha
  rw [show max (-4096) (min 4096 n) = min (max n (-4096)) 4096 by omega] at e
  rw [← e.1,← e.2]
  unfold xV xF
  rw [if_neg a4,if_neg a4,if_neg a3,if_neg a3]
  exact scale_f a _ n _ (max n (-4096)) (min (max n (-4096)) 4096) _ w (by simp [a4]) (by simp;omega) (by simp;omega) hT (fun W ts t=>max2_run _ W ts t _ _) (fun W ts t=>min2_run _ W ts t _ _) C1 (fun w' t=>scaleFinite_any a _ w' ha fa (by omega) (by omega) t)
end Go.Proofs.YtdhmglmccafbnaaGreatDoor
