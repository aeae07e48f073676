/- Part 19 of the texts. -/
import Derived.Test.YtnnfjeieennffaaGreatDoorPartb16
namespace Go.Proofs.YtnnfjeieennffaaGreatDoor
def isq:Nat→Nat
 | 0=>0
 | n+1=>if (isq n+1) * (isq n+1)≤n+1 then isq n+1 else isq n
theorem sq_succ (m:Nat):(m+1) * (m+1) = m * m+2 * m+1:=by rw [Nat.add_mul,Nat.mul_add];omega
theorem sq_le {a b:Nat} (h:a≤b):a * a≤b * b:=Nat.mul_le_mul h h
theorem sq_lt {a b:Nat} (h:a < b):a * a < b * b:=Nat.mul_lt_mul_of_lt_of_le h (Nat.le_of_lt h) (by omega)
theorem sq_lt_iff {a b:Nat}:a * a < b * b ↔ a < b:=by
 constructor
 ·intro h
  rcases Nat.lt_or_ge a b with h1 | h1
  ·exact h1
  ·have:=sq_le h1;omega
 ·exact sq_lt
theorem isq_spec (n:Nat):isq n * isq n≤n∧n < (isq n+1) * (isq n+1):=by
 induction n with
 | zero=>exact ⟨Nat.le_refl _,by decide⟩
 | succ n ih =>
  unfold isq
  obtain ⟨h1,h2⟩:=ih
  have e1:=sq_succ (isq n)
  have e2:=sq_succ (isq n+1)
  split
  ·rename_i h
   exact ⟨h,by omega⟩
  ·rename_i h
   exact ⟨by omega,by omega⟩
theorem isq_unique {n m:Nat} (h1:m * m≤n) (h2:n < (m+1) * (m+1)):isq n = m:=by
 obtain ⟨g1,g2⟩:=isq_spec n
 have a1:isq n < m+1:=sq_lt_iff.1 (by omega)
 have a2:m < isq n+1:=sq_lt_iff.1 (by omega)
 omega
theorem isq_mono {n m:Nat} (h:n≤m):isq n≤isq m:=by
 obtain ⟨g1,g2⟩:=isq_spec n
 obtain ⟨k1,k2⟩:=isq_spec m
 have:isq n < isq m+1:=sq_lt_iff.1 (by omega)
 omega
theorem sq_mul (a p:Nat):a * p * (a * p) = a * a * (p * p):=by ac_rfl
theorem isq_scale (N p:Nat) (hp:0 < p):isq (N * (p * p)) / p = isq N:=by
 obtain ⟨g1,g2⟩:=isq_spec N
 obtain ⟨k1,k2⟩:=isq_spec (N * (p * p))
 have hpp:0 < p * p:=Nat.mul_pos hp hp
 have a1:isq N * p < isq (N * (p * p))+1:=by
  apply sq_lt_iff.1
  rw [sq_mul]
  have:isq N * isq N * (p * p)≤N * (p * p):=Nat.mul_le_mul_right _ g1
  omega
 have a2:isq (N * (p * p)) < (isq N+1) * p:=by
  apply sq_lt_iff.1
  rw [sq_mul]
  have:N * (p * p) < (isq N+1) * (isq N+1) * (p * p):=(Nat.mul_lt_mul_right hpp).2 g2
  omega
 have b1:isq N≤isq (N * (p * p)) / p:=(Nat.le_div_iff_mul_le hp).2 (by omega)
 have b2:isq (N * (p * p)) / p < isq N+1:=(Nat.div_lt_iff_lt_mul hp).2 a2
 omega
def rS (N:Nat):Nat:=2 * isq N+(if isq N * isq N = N then 0 else 1)
def cutR (N k:Nat):Nat:=isq N / 2 ^ k+(if (2 * (isq N / 2 ^ k)+1) * 2 ^ k * ((2 * (isq N / 2 ^ k)+1) * 2 ^ k) < 4 * N ∨ ((2 * (isq N / 2 ^ k)+1) * 2 ^ k * ((2 * (isq N / 2 ^ k)+1) * 2 ^ k) = 4 * N∧isq N / 2 ^ k % 2 = 1) then 1 else 0)
theorem cutR_scale (N k i:Nat):cutR (N * (2 ^ i * 2 ^ i)) (k+i) = cutR N k:=by
 have hp:0 < 2 ^ i:=Nat.two_pow_pos _
 have hpp:0 < 2 ^ i * 2 ^ i:=Nat.mul_pos hp hp
 have e:isq (N * (2 ^ i * 2 ^ i)) / 2 ^ (k+i) = isq N / 2 ^ k:=by
  rw [Nat.add_comm k i,Nat.pow_add,← Nat.div_div_eq_div_mul,isq_scale N _ hp]
 unfold cutR
 rw [e]
 generalize isq N / 2 ^ k = m
 have s1:(2 * m+1) * 2 ^ (k+i) * ((2 * m+1) * 2 ^ (k+i)) = (2 * m+1) * 2 ^ k * ((2 * m+1) * 2 ^ k) * (2 ^ i * 2 ^ i):=by
  rw [Nat.pow_add];ac_rfl
 have s2:4 * (N * (2 ^ i * 2 ^ i)) = 4 * N * (2 ^ i * 2 ^ i):=by ac_rfl
 rw [s1,s2]
 have c1:((2 * m+1) * 2 ^ k * ((2 * m+1) * 2 ^ k) * (2 ^ i * 2 ^ i) < 4 * N * (2 ^ i * 2 ^ i)) ↔ (2 * m+1) * 2 ^ k * ((2 * m+1) * 2 ^ k) < 4 * N:=Nat.mul_lt_mul_right hpp
 have c2:((2 * m+1) * 2 ^ k * ((2 * m+1) * 2 ^ k) * (2 ^ i * 2 ^ i) = 4 * N * (2 ^ i * 2 ^ i)) ↔ (2 * m+1) * 2 ^ k * ((2 * m+1) * 2 ^ k) = 4 * N :=
  ⟨fun h=>Nat.eq_of_mul_eq_mul_right hpp h,fun h=>by rw [h]⟩
 simp only [c1,c2]
theorem rS_cut (N k:Nat) (hk:1≤k):cutE (rS N) (k+1) = cutR N k:=by
 obtain ⟨j,rfl⟩:∃ j,k = j+1:=⟨k - 1,by omega⟩
 obtain ⟨n1,n2⟩:=isq_spec N
 have hg:0 < 2 ^ j:=Nat.two_pow_pos _
 have e1:(2:Nat) ^ (j+1) = 2 * 2 ^ j:=by rw [Nat.pow_succ,Nat.mul_comm]
 have e2:(2:Nat) ^ (j+1+1) = 2 * (2 * 2 ^ j):=by rw [Nat.pow_succ,e1,Nat.mul_comm]
 have ht:(if isq N * isq N = N then 0 else 1)≤1:=by split <;> omega
 have htz:(if isq N * isq N = N then 0 else 1) = 0 ↔ isq N * isq N = N:=by split <;> simp_all
 unfold cutE cutR rS
 rw [e2,e1]
 generalize (2:Nat) ^ j = g at *
 generalize (if isq N * isq N = N then 0 else 1) = t at *
 generalize isq N = q at *
 have hq:=Nat.div_add_mod q (2 * g)
 have ha:=Nat.mod_lt q (show 0 < 2 * g by omega)
 generalize hA:q % (2 * g) = a at *
 generalize hQ:q / (2 * g) = b at *
 have s1:(2 * q+t) / (2 * (2 * g)) = b:=by
  rw [← hq,Nat.mul_add,← Nat.mul_assoc 2 (2 * g) b,Nat.add_assoc]
  rw [Nat.mul_add_div (by omega),Nat.div_eq_of_lt (by omega),Nat.add_zero]
 have s2:(2 * q+t) % (2 * (2 * g)) = 2 * a+t:=by
  rw [← hq,Nat.mul_add,← Nat.mul_assoc 2 (2 * g) b,Nat.add_assoc,Nat.mul_add_mod,Nat.mod_eq_of_lt (by omega)]
 rw [s1,s2]
 congr 1
 -- half between two,as a square
 obtain ⟨c,hc⟩:∃ c,c = 2 * g * b+g:=⟨_,rfl⟩
 have hM:(2 * b+1) * (2 * g) * ((2 * b+1) * (2 * g)) = 4 * (c * c):=by
  have:(2 * b+1) * (2 * g) = 2 * c:=by rw [hc,Nat.add_mul,Nat.one_mul,Nat.mul_add];ac_rfl
  rw [this,show (4:Nat) = 2 * 2 by decide]
  ac_rfl
 rw [hM]
 clear hM hQ hA s1 s2
 rcases Nat.lt_trichotomy a g with h | h | h
 ·have h1:(q+1) * (q+1)≤c * c:=sq_le (by omega)
  rw [if_neg (by omega),if_neg (by omega)]
 ·have h1:c = q:=by omega
  subst h1
  by_cases h0:c * c = N
  ·have:=htz.2 h0
   by_cases hb:b % 2 = 1
   ·rw [if_pos (Or.inr ⟨by omega,hb⟩),if_pos (Or.inr ⟨by omega,hb⟩)]
   ·rw [if_neg (by omega),if_neg (by omega)]
  ·have:t ≠ 0:=fun e=>h0 (htz.1 e)
   rw [if_pos (Or.inl (by omega)),if_pos (Or.inl (by omega))]
 ·have h1:c * c < q * q:=sq_lt (by omega)
  rw [if_pos (Or.inl (by omega)),if_pos (Or.inl (by omega))]
theorem rS_bl (N i:Nat) (hq:0 < isq N):bl (rS (N * (2 ^ i * 2 ^ i))) = bl (rS N)+i:=by
 have hp:0 < 2 ^ i:=Nat.two_pow_pos _
 have hs:rS N ≠ 0:=by unfold rS;omega
 obtain ⟨b1,b2,b3⟩:=bl_spec (rS N) hs
 have h1:2≤rS N:=by unfold rS;omega
 have hb2:2≤bl (rS N):=by
  rcases Nat.lt_or_ge (bl (rS N)) 2 with h | h
  ·have:bl (rS N) = 1:=by omega
   rw [this] at b3;omega
  ·exact h
 obtain ⟨c,hc⟩:∃ c,bl (rS N) = c+2:=⟨bl (rS N) - 2,by omega⟩
 rw [hc] at b2 b3 ⊢
 have ht:(if isq N * isq N = N then 0 else 1)≤1:=by split <;> omega
 have q3:2 ^ c≤isq N:=by
  rw [show c+2 - 1 = c+1 by omega,Nat.pow_succ] at b2
  unfold rS at b2
  omega
 have q2:isq N < 2 ^ (c+1):=by
  rw [Nat.pow_succ] at b3
  unfold rS at b3
  omega
 have hd:=isq_scale N (2 ^ i) hp
 have m1:2 ^ (c+i)≤isq (N * (2 ^ i * 2 ^ i)):=by
  rw [Nat.pow_add,← Nat.le_div_iff_mul_le hp,hd];exact q3
 have m2:isq (N * (2 ^ i * 2 ^ i)) < 2 ^ (c+1+i):=by
  rw [Nat.pow_add,← Nat.div_lt_iff_lt_mul hp,hd];exact q2
 refine bl_of (by omega) ?_ ?_
 ·rw [show c+2+i - 1 = c+i+1 by omega,Nat.pow_succ]
  unfold rS
  omega
 ·rw [show c+2+i = c+1+i+1 by omega,Nat.pow_succ]
  unfold rS
  have ht:(if isq (N * (2 ^ i * 2 ^ i)) * isq (N * (2 ^ i * 2 ^ i)) = N * (2 ^ i * 2 ^ i) then 0 else 1)≤1:=by split <;> omega
  omega
theorem rS_big {N:Nat} (hq:9007199254740992≤isq N):55≤bl (rS N):=by
 have hs:rS N ≠ 0:=by unfold rS;omega
 obtain ⟨b1,b2,b3⟩:=bl_spec (rS N) hs
 have h:2 ^ 54≤rS N:=by
  have:(2:Nat) ^ 54 = 2 * 9007199254740992:=by decide
  rw [this];unfold rS;omega
 have:=pow_lt_of (Nat.lt_of_le_of_lt h b3)
 omega
theorem rS_step (N i:Nat) (E:Int) (hq:9007199254740992≤isq N) :
  rnd (rS (N * (2 ^ i * 2 ^ i))) (E - i) = rnd (rS N) E∧lastE (rS (N * (2 ^ i * 2 ^ i))) (E - i) = lastE (rS N) E∧(bl (rS (N * (2 ^ i * 2 ^ i))):Int)+(E - i) = (bl (rS N):Int)+E∧E+2≤lastE (rS N) E:=by
 have hb:=rS_bl N i (by omega)
 have h55:=rS_big hq
 have hs:rS N ≠ 0:=by unfold rS;omega
 have hs':rS (N * (2 ^ i * 2 ^ i)) ≠ 0:=fun h=>by
  rw [h] at hb
  have:bl 0 = 0:=rfl
  omega
 have hl:lastE (rS (N * (2 ^ i * 2 ^ i))) (E - i) = lastE (rS N) E:=by unfold lastE;rw [hb];omega
 have hbE:(bl (rS (N * (2 ^ i * 2 ^ i))):Int)+(E - i) = (bl (rS N):Int)+E:=by rw [hb];omega
 have h2:E+2≤lastE (rS N) E:=by have:=(lastE_ge (rS N) E).2.1;omega
 refine ⟨?_,hl,hbE,h2⟩
 have hM:rndM (rS (N * (2 ^ i * 2 ^ i))) (E - i) = rndM (rS N) E:=by
  unfold rndM
  rw [hl]
  obtain ⟨k,hk⟩:∃ k:Nat,lastE (rS N) E = E+k+1∧1≤k:=⟨(lastE (rS N) E - E - 1).toNat,by omega,by omega⟩
  rw [show E - i - lastE (rS N) E = -((k+i+1:Nat):Int) by omega,show E - lastE (rS N) E = -((k+1:Nat):Int) by omega]
  rw [mS_down _ _ (by omega),mS_down _ _ (by omega),rS_cut _ _ (by omega),rS_cut _ _ (by omega)]
  exact cutR_scale _ _ _
 unfold rnd
 rw [if_neg hs,if_neg hs',hbE,hM,hl]
theorem isq_sq (N i:Nat):isq (N * (2 ^ i * 2 ^ i)) * isq (N * (2 ^ i * 2 ^ i)) = N * (2 ^ i * 2 ^ i) ↔ isq N * isq N = N:=by
 have hp:0 < 2 ^ i:=Nat.two_pow_pos _
 have hpp:0 < 2 ^ i * 2 ^ i:=Nat.mul_pos hp hp
 constructor
 ·intro h
  have hd:=isq_scale N (2 ^ i) hp
  generalize hR:isq (N * (2 ^ i * 2 ^ i)) = R at *
  -- 2^i goes into R,since its square goes into R's
  have dv:∀ (n a:Nat),(2 ^ n * 2 ^ n) ∣ a * a→2 ^ n ∣ a:=by
   intro n
   induction n with
   | zero=>intro a _;simp
   | succ n ih =>
    intro a ha
    have h2:2 ∣ a * a:=Nat.dvd_trans ⟨2 ^ n * 2 ^ (n+1),by rw [Nat.pow_succ];ac_rfl⟩ ha
    have h3:a % 2 = 0:=by
     rcases Nat.mod_two_eq_zero_or_one a with h | h
     ·exact h
     ·exfalso
      have:a * a % 2 = 1:=by rw [Nat.mul_mod,h]
      omega
    obtain ⟨b,rfl⟩:∃ b,a = 2 * b:=⟨a / 2,by omega⟩
    have h4:2 ^ n * 2 ^ n ∣ b * b:=by
     obtain ⟨c,hc⟩:=ha
     refine ⟨c,?_⟩
     have:4 * (b * b) = 4 * (2 ^ n * 2 ^ n * c):=by
      have e1:2 * b * (2 * b) = 4 * (b * b):=by rw [show (4:Nat) = 2 * 2 by decide];ac_rfl
      have e2:2 ^ (n+1) * 2 ^ (n+1) * c = 4 * (2 ^ n * 2 ^ n * c):=by rw [Nat.pow_succ,show (4:Nat) = 2 * 2 by decide];ac_rfl
      rw [← e1,hc,e2]
     omega
    obtain ⟨d,hd⟩:=ih b h4
    exact ⟨d,by rw [hd,Nat.pow_succ];ac_rfl⟩
  obtain ⟨c,hc⟩:=dv i R ⟨N,by rw [h];ac_rfl⟩
  rw [hc,Nat.mul_div_cancel_left c hp] at hd
  rw [← hd]
  have:c * c * (2 ^ i * 2 ^ i) = N * (2 ^ i * 2 ^ i):=by rw [← h,hc];ac_rfl
  exact Nat.eq_of_mul_eq_mul_right hpp this
 ·intro h
  have:isq (N * (2 ^ i * 2 ^ i)) = isq N * 2 ^ i:=by
   refine isq_unique ?_ ?_
   ·rw [sq_mul,h];exact Nat.le_refl _
   ·have:=sq_succ (isq N * 2 ^ i)
    rw [sq_mul,h] at this
    omega
  rw [this,sq_mul,h]
theorem rS_flag (N i:Nat) (E:Int) (hq:9007199254740992≤isq N) :
  rflag (oM (rS (N * (2 ^ i * 2 ^ i)):Nat)).natAbs (oE (rS (N * (2 ^ i * 2 ^ i)):Nat) (E - i)) = rflag (oM (rS N:Nat)).natAbs (oE (rS N:Nat) E):=by
 obtain ⟨s1,s2,s3,s4⟩:=rS_step N i E hq
 have hsq:=isq_sq N i
 by_cases h0:isq N * isq N = N
 ·have h1:=hsq.2 h0
  have h2:isq (N * (2 ^ i * 2 ^ i)) = isq N * 2 ^ i:=by
   refine isq_unique ?_ ?_
   ·rw [sq_mul,h0];exact Nat.le_refl _
   ·have:=sq_succ (isq N * 2 ^ i)
    rw [sq_mul,h0] at this
    omega
  have e:rS (N * (2 ^ i * 2 ^ i)) = rS N * 2 ^ i:=by
   unfold rS;rw [if_pos h0,if_pos h1,h2,Nat.add_zero,Nat.add_zero,Nat.mul_assoc]
  have e2:((rS (N * (2 ^ i * 2 ^ i)):Nat):Int) = ((rS N:Nat):Int) * 2 ^ i:=by rw [e,Int.natCast_mul,Int.natCast_pow];rfl
  have:=oM_scale ((rS N:Nat):Int) i (E - i)
  rw [e2,this.1,this.2,show E - (i:Int)+i = E by omega]
 ·have h1:¬ isq (N * (2 ^ i * 2 ^ i)) * isq (N * (2 ^ i * 2 ^ i)) = N * (2 ^ i * 2 ^ i):=fun h=>h0 (hsq.1 h)
  have o1:((rS N:Nat):Int) % 2 = 1:=by unfold rS;rw [if_neg h0];omega
  have o2:((rS (N * (2 ^ i * 2 ^ i)):Nat):Int) % 2 = 1:=by unfold rS;rw [if_neg h1];omega
  have z1:∀ (v:Nat) (e:Int),(v:Int) % 2 = 1→oM (v:Int) = v∧oE (v:Int) e = e:=fun v e h=>by
   have hne:(v:Int) ≠ 0:=by omega
   have a:=(oddOf (v:Int) hne).unique (m':=(v:Int)) (k':=0) ⟨by simp,h⟩
   exact ⟨a.1,by rw [oE_ne _ _ hne,a.2];simp⟩
  rw [(z1 _ (E - i) o2).1,(z1 _ (E - i) o2).2,(z1 _ E o1).1,(z1 _ E o1).2,Int.natAbs_natCast,Int.natAbs_natCast]
  have n1:rS N ≠ 0:=by omega
  have n2:rS (N * (2 ^ i * 2 ^ i)) ≠ 0:=by omega
  unfold rflag
  rw [if_neg n1,if_neg n2,s3,s2,s1,if_neg (show ¬ lastE (rS N) E≤E - i by omega),if_neg (show ¬ lastE (rS N) E≤E by omega)]
end Go.Proofs.YtnnfjeieennffaaGreatDoor
namespace Go.Proofs.YtnnfjeieennffaaGreatDoor
open Go.RowKit
theorem root_two (m k p D α sh:Nat) (e1 e2:Int) (hV:m * 2 ^ k = D * 2 ^ α) (h1:2 * e1 = (k:Int) - 1074 - p) (h2:2 * e2 = (α:Int) - 1074 - sh) (q1:9007199254740992≤isq (m * 2 ^ p)) (q2:9007199254740992≤isq (D * 2 ^ sh)) :
  rnd (rS (m * 2 ^ p)) (e1 - 1) = rnd (rS (D * 2 ^ sh)) (e2 - 1)∧rflag (oM (rS (m * 2 ^ p):Nat)).natAbs (oE (rS (m * 2 ^ p):Nat) (e1 - 1)) = rflag (oM (rS (D * 2 ^ sh):Nat)).natAbs (oE (rS (D * 2 ^ sh):Nat) (e2 - 1)):=by
 have key:∀ (m k p D α sh i:Nat),m * 2 ^ k = D * 2 ^ α→p+2 * i+α = k+sh→m * 2 ^ p * (2 ^ i * 2 ^ i) = D * 2 ^ sh:=by
  intro m k p D α sh i hV hi
  have hp:0 < 2 ^ α:=Nat.two_pow_pos _
  refine Nat.eq_of_mul_eq_mul_right hp ?_
  rw [← Nat.pow_add,Nat.mul_assoc,Nat.mul_assoc,← Nat.pow_add,← Nat.pow_add,show p+(i+i+α) = k+sh by omega,Nat.pow_add,← Nat.mul_assoc,hV]
  ac_rfl
 rcases Int.le_total e2 e1 with h | h
 ·obtain ⟨i,hi⟩:∃ i:Nat,e1 - e2 = i:=⟨(e1 - e2).toNat,by omega⟩
  have e:=key m k p D α sh i hV (by omega)
  have s:=rS_step (m * 2 ^ p) i (e1 - 1) q1
  have f:=rS_flag (m * 2 ^ p) i (e1 - 1) q1
  rw [e,show e1 - 1 - (i:Int) = e2 - 1 by omega] at s f
  exact ⟨s.1.symm,f.symm⟩
 ·obtain ⟨i,hi⟩:∃ i:Nat,e2 - e1 = i:=⟨(e2 - e1).toNat,by omega⟩
  have e:=key D α sh m k p i hV.symm (by omega)
  have s:=rS_step (D * 2 ^ sh) i (e2 - 1) q2
  have f:=rS_flag (D * 2 ^ sh) i (e2 - 1) q2
  rw [e,show e2 - 1 - (i:Int) = e1 - 1 by omega] at s f
  exact ⟨s.1,f⟩
def tS (a:Nat):Nat:=rS (rv (fR a) * 2 ^ 120)
def tV (a:Nat):Nat:=rnd (tS a) (-598)
def tF (a:Nat):Int:=rflag (oM (tS a:Nat)).natAbs (oE (tS a:Nat) (-598))
def sV (a:Nat):Nat :=
 if fK a = 4 then 9221120237041090560
 else if fK a = 0 ∨ a = 9218868437227405312 then a
 else if fS a = true then 9221120237041090560
 else tV a
def sF (a:Nat):Int :=
 if fK a = 4 then 0
 else if fK a = 0 ∨ a = 9218868437227405312 then 0
 else if fS a = true then 16
 else tF a
theorem big_sq {N:Nat} (h:2 ^ 106≤N):9007199254740992≤isq N:=by
 obtain ⟨g1,g2⟩:=isq_spec N
 have e:(9007199254740992:Nat) * 9007199254740992 = 2 ^ 106:=by decide
 have:9007199254740992 < isq N+1:=sq_lt_iff.1 (by omega)
 omega
theorem tS_big (a:Nat) (h0:fK a ≠ 0):9007199254740992≤isq (rv (fR a) * 2 ^ 120):=by
 have hr:rv (fR a) ≠ 0:=fun e=>h0 ((fK_zero a).2 ((rv_eq0 _).1 e))
 refine big_sq (Nat.le_trans (show 2 ^ 106≤1 * 2 ^ 120 by decide) (Nat.mul_le_mul_right _ (by omega)))
theorem root_any (a m k p:Nat) (e:Int) (h0:fK a ≠ 0) (hm:m * 2 ^ k = rv (fR a)) (he:2 * e = (k:Int) - 1074 - p) (hq:9007199254740992≤isq (m * 2 ^ p)) :
  rnd (rS (m * 2 ^ p)) (e - 1) = tV a∧rflag (oM (rS (m * 2 ^ p):Nat)).natAbs (oE (rS (m * 2 ^ p):Nat) (e - 1)) = tF a:=by
 have:=root_two m k p (rv (fR a)) 0 120 e (-597) (by rw [hm];simp) he (by omega) hq (tS_big a h0)
 exact this
end Go.Proofs.YtnnfjeieennffaaGreatDoor
namespace Go.Proofs.YtnnfjeieennffaaGreatDoor
open Go.RowKit
theorem tV_le (a:Nat):tV a≤9218868437227405312:=rnd_le _ _
theorem sV_lt (a:Nat) (ha:a < 18446744073709551616):sV a < 18446744073709551616:=by
 have h:=tV_le a
 unfold sV
 repeat' split
 all_goals omega
theorem tlow:rnd (2 ^ 61) (-598) = 486 * 4503599627370496:=by decide +kernel
theorem thigh:rnd (2 ^ 1110) (-598) = 1535 * 4503599627370496:=by decide +kernel
theorem two60:(2:Nat) ^ 60 * 2 ^ 60 = 1 * 2 ^ 120:=by decide
theorem two1109:(2:Nat) ^ 1109 * 2 ^ 1109 = 2 ^ 2098 * 2 ^ 120:=by decide +kernel
theorem tS_low (a:Nat) (h0:fK a ≠ 0):2 ^ 60≤isq (rv (fR a) * 2 ^ 120)∧2 ^ 61≤tS a:=by
 have hr:rv (fR a) ≠ 0:=fun e=>h0 ((fK_zero a).2 ((rv_eq0 _).1 e))
 have h1:1 * 2 ^ 120≤rv (fR a) * 2 ^ 120:=Nat.mul_le_mul_right _ (by omega)
 obtain ⟨g1,g2⟩:=isq_spec (rv (fR a) * 2 ^ 120)
 have h2:2 ^ 60 < isq (rv (fR a) * 2 ^ 120)+1:=sq_lt_iff.1 (by rw [two60];exact Nat.lt_of_le_of_lt h1 g2)
 refine ⟨Nat.le_of_lt_succ h2,?_⟩
 have h3:=Nat.le_of_lt_succ h2
 have e:(2:Nat) ^ 61 = 2 * 2 ^ 60:=by decide
 unfold tS rS
 rw [e]
 exact Nat.le_trans (Nat.mul_le_mul_left 2 h3) (Nat.le_add_right _ _)
theorem sq_top {V P c R:Nat} (hV:V < P) (hc:0 < c) (hR:R * R = P * c):isq (V * c) < R:=by
 obtain ⟨g1,g2⟩:=isq_spec (V * c)
 have:V * c < P * c:=(Nat.mul_lt_mul_right hc).2 hV
 exact sq_lt_iff.1 (by rw [hR];omega)
theorem sq_topV {V:Nat} (h:V < 2 ^ 2098):isq (V * 2 ^ 120) < 2 ^ 1109:=by
 have h1:=two1109
 have h2:=Nat.two_pow_pos 120
 generalize (2:Nat) ^ 1109 = R at *
 generalize (2:Nat) ^ 2098 = P at *
 generalize (2:Nat) ^ 120 = c at *
 exact sq_top h h2 h1
theorem e1110:(2:Nat) ^ 1110 = 2 ^ 1109 * 2:=by decide +kernel
theorem rS_lt {N P:Nat} (h:isq N < P):rS N≤P * 2:=by
 unfold rS
 have ht:(if isq N * isq N = N then 0 else 1)≤1:=by split <;> omega
 omega
theorem tV_range (a:Nat) (hf:fFin a = true) (h0:fK a ≠ 0):486 * 4503599627370496≤tV a∧tV a≤1535 * 4503599627370496:=by
 have h1:=fZ_lt a hf
 rw [fZ_abs] at h1
 have h3:=sq_topV h1
 have h4:tS a≤2 ^ 1110:=by
  rw [e1110]
  generalize (2:Nat) ^ 1109 = R at *
  exact rS_lt h3
 refine ⟨?_,?_⟩
 ·rw [← tlow];exact rnd_mono _ (tS_low a h0).2
 ·rw [← thigh];exact rnd_mono _ h4
end Go.Proofs.YtnnfjeieennffaaGreatDoor
namespace Go.Proofs.YtnnfjeieennffaaGreatDoor
open Go.RowKit
theorem cutE_mul (v u:Nat):2 * (cutE v u * 2 ^ u)≤2 * v+2 ^ u∧2 * v≤2 * (cutE v u * 2 ^ u)+2 ^ u∧(v % 2 ^ u = 0→cutE v u * 2 ^ u = v):=by
 have hp:0 < 2 ^ u:=Nat.two_pow_pos _
 have h1:=Nat.div_add_mod v (2 ^ u)
 have h2:=Nat.mod_lt v hp
 rw [Nat.mul_comm] at h1
 unfold cutE
 generalize v / 2 ^ u = q at *
 generalize v % 2 ^ u = r at *
 generalize (2:Nat) ^ u = p at *
 split
 ·rw [Nat.add_mul,Nat.one_mul]
  exact ⟨by omega,by omega,by omega⟩
 ·rw [Nat.add_zero]
  exact ⟨by omega,by omega,by omega⟩
theorem near_digits (T M c d:Nat) (hc:c = 2 * d) (hd:0 < d) (h1:(2 * M - 1) * (2 * M - 1) < 4 * T) (h2:4 * T < (2 * M+1) * (2 * M+1)) :
  (2 * M - 1) * c < rS (T * (c * c))∧rS (T * (c * c)) < (2 * M+1) * c:=by
 obtain ⟨g1,g2⟩:=isq_spec (T * (c * c))
 have hcc:0 < c * c:=Nat.mul_pos (by omega) (by omega)
 have k1:(2 * M - 1) * (2 * M - 1) * (c * c) < 4 * T * (c * c):=(Nat.mul_lt_mul_right hcc).2 h1
 have k2:4 * T * (c * c) < (2 * M+1) * (2 * M+1) * (c * c):=(Nat.mul_lt_mul_right hcc).2 h2
 have k3:4 * T * (c * c) = 4 * (T * (c * c)):=Nat.mul_assoc _ _ _
 rw [k3] at k1 k2
 rw [← sq_mul] at k1 k2
 have ev1:(2 * M - 1) * c = 2 * ((2 * M - 1) * d):=by rw [hc];ac_rfl
 have ev2:(2 * M+1) * c = 2 * ((2 * M+1) * d):=by rw [hc];ac_rfl
 unfold rS
 generalize T * (c * c) = N at *
 generalize isq N = Q at *
 have q4:∀ x:Nat,2 * x * (2 * x) = 4 * (x * x):=fun x=>by rw [show (4:Nat) = 2 * 2 by decide];ac_rfl
 have i1:(2 * M - 1) * c < 2 * (Q+1):=sq_lt_iff.1 (by rw [q4 (Q+1)];omega)
 have i2:2 * Q < (2 * M+1) * c:=sq_lt_iff.1 (by rw [q4 Q];omega)
 split
 ·rename_i h
  have i3:(2 * M - 1) * c < 2 * Q:=sq_lt_iff.1 (by rw [q4 Q];omega)
  exact ⟨by omega,by omega⟩
 ·exact ⟨by omega,by omega⟩
theorem near_root (T M:Nat) (e:Nat) (hM1:4503599627370496≤M) (hM2:M < 9007199254740992) (he:1≤e) (he2:e≤1900)
  (h1:(2 * M - 1) * (2 * M - 1) < 4 * T) (h2:4 * T < (2 * M+1) * (2 * M+1)) (h3:M = 4503599627370496→rS (T * (1024 * 1024)) = 9223372036854775808) :
  rnd (rS (T * (1024 * 1024))) ((e:Int) - 1085) = M+e * 4503599627370496:=by
 obtain ⟨w1,w2⟩:=near_digits T M 1024 512 rfl (by decide) h1 h2
 have w3:9223372036854775808≤rS (T * (1024 * 1024)):=by
  by_cases hm:M = 4503599627370496
  ·rw [h3 hm];exact Nat.le_refl _
  ·omega
 generalize rS (T * (1024 * 1024)) = W at *
 clear h1 h2 h3
 have hb:bl W = 64:=bl_of (by decide) (by have:(2:Nat) ^ (64 - 1) = 9223372036854775808:=(by decide);omega) (by have:(2:Nat) ^ 64 = 18446744073709551616:=(by decide);omega)
 have hl:lastE W ((e:Int) - 1085) = (e:Int) - 1074:=by unfold lastE;rw [hb];omega
 rw [rnd_fin W _ (by omega) (by rw [hb];omega),hl]
 unfold rndM
 rw [hl,show (e:Int) - 1085 - ((e:Int) - 1074) = -((11:Nat):Int) by omega,mS_down _ _ (by decide)]
 have hc:cutE W 11 = M:=by
  unfold cutE
  rw [show (2:Nat) ^ 11 = 2048 by decide]
  by_cases hh:M * 2048≤W
  ·have a1:W / 2048 = M:=by omega
   rw [a1,if_neg (by omega),Nat.add_zero]
  ·have a1:W / 2048 = M - 1:=by omega
   rw [a1,if_pos (by omega)]
   omega
 rw [hc,show ((e:Int) - 1074+1074).toNat = e by omega]
theorem rS_of {N q:Nat} (h:q * q = N):rS N = 2 * q:=by
 have h1:isq N = q:=isq_unique (Nat.le_of_eq h) (by have:=sq_succ q;omega)
 unfold rS
 rw [h1,if_pos h,Nat.add_zero]
theorem rS_one {T:Nat} (h:T = 4503599627370496 * 4503599627370496):rS (T * (1024 * 1024)) = 9223372036854775808 :=
 (rS_of (q:=4611686018427387904) (by rw [h])).trans (by decide)
theorem sq_104 {M:Nat} (h:4503599627370496≤M):20282409603651670423947251286016≤M * M:=Nat.le_trans (by decide) (sq_le h)
theorem big_sqL {T:Nat} (h:81129638414606681695789005144064≤T * 1048576):9007199254740992≤isq (T * 2 ^ 20):=by
 refine big_sq ?_
 have e1:(2:Nat) ^ 106 = 81129638414606681695789005144064:=by decide
 have e2:(2:Nat) ^ 20 = 1048576:=by decide
 rw [e1,e2]
 exact h
theorem t106 {T v p:Nat} (h1:20282409603651670423947251286016≤v) (h2:2 * v≤2 * T+p) (hp:p≤9007199254740992):81129638414606681695789005144064≤T * 1048576:=by omega
theorem bl_105 (M:Nat) (hM1:4503599627370496≤M) (hM2:M < 9007199254740992):bl (M * M) = 105 ∨ (bl (M * M) = 106∧M ≠ 4503599627370496):=by
 have h1:=sq_le hM1
 have h2:=sq_lt hM2
 have e1:(4503599627370496:Nat) * 4503599627370496 = 2 ^ 104:=by decide
 have e2:(9007199254740992:Nat) * 9007199254740992 = 2 ^ 106:=by decide
 rw [e1] at h1
 rw [e2] at h2
 rcases Nat.lt_or_ge (M * M) (2 ^ 105) with h | h
 ·exact .inl (bl_of (by decide) h1 h)
 ·refine .inr ⟨bl_of (by decide) h h2,fun hm=>?_⟩
  rw [hm,e1] at h
  exact absurd h (by decide)
theorem squares7 (a:Nat) (h1:600≤fP a) (h2:fP a≤1400):sV (mV a a) = fR a:=by
 have hP:fP a = fR a / 4503599627370496:=rfl
 have hF:=Nat.div_add_mod (fR a) 4503599627370496
 have hFl:=Nat.mod_lt (fR a) (show 0 < 4503599627370496 by decide)
 obtain ⟨M,hM⟩:∃ M,M = 4503599627370496+fR a % 4503599627370496:=⟨_,rfl⟩
 obtain ⟨e,he⟩:∃ e,fP a = e+1:=⟨fP a - 1,by omega⟩
 have hr:fR a = M+e * 4503599627370496:=by omega
 have hrv:rv (fR a) = M * 2 ^ e:=by rw [hr];exact rv_of M e (by omega) (fun _=>by omega)
 have fa:fFin a = true:=(fK_rungs a).2.2.2 (by omega)
 have k3:fK a ≠ 3∧fK a ≠ 4:=fin_kind fa
 have k0:fK a ≠ 0:=fun h=>by have:=(fK_zero a).1 h;omega
 -- the square,rounded
 have hv:mV a a = rnd (M * M) (2 * (e:Int) - 2148):=by
  rw [(mV_fin a a fa fa k0 k0).1,Bool.xor_self,wrd_false,hrv,show M * 2 ^ e * (M * 2 ^ e) = M * M * 2 ^ (e+e) by rw [Nat.pow_add];ac_rfl,rnd_scale]
  congr 1
  omega
 have hbl:=bl_105 M (by omega) (by omega)
 have hne:M * M ≠ 0:=Nat.mul_ne_zero (by omega) (by omega)
 obtain ⟨u,hu⟩:∃ u,bl (M * M) = u+53:=⟨bl (M * M) - 53,by omega⟩
 have hl:lastE (M * M) (2 * (e:Int) - 2148) = (u:Int)+2 * e - 2148:=by unfold lastE;rw [hu];omega
 have hmb:=rndM_bounds (M * M) (2 * (e:Int) - 2148) hne
 have hMd:rndM (M * M) (2 * (e:Int) - 2148) = cutE (M * M) u:=by
  unfold rndM
  rw [hl,show 2 * (e:Int) - 2148 - ((u:Int)+2 * e - 2148) = -((u:Nat):Int) by omega,mS_down _ _ (by omega)]
 have hs:mV a a = cutE (M * M) u+(u+2 * e - 1074) * 4503599627370496:=by
  rw [hv,rnd_fin _ _ hne (by rw [hu];omega),hl,hMd,show ((u:Int)+2 * e - 2148+1074).toNat = u+2 * e - 1074 by omega]
 rw [hMd] at hmb
 have hlow:=hmb.2.1 (by rw [hl];omega)
 have hrs:rv (mV a a) = cutE (M * M) u * 2 ^ (u+2 * e - 1074):=by rw [hs];exact rv_of _ _ hmb.1 (fun _=>hlow)
 have hslt:mV a a < 9218868437227405312:=by rw [hs];have:=hmb.1;omega
 have fRs:fR (mV a a) = mV a a:=by unfold fR;omega
 have s0:fK (mV a a) ≠ 0:=fun h=>by
  have:=(fK_zero _).1 h
  rw [fRs,hs] at this
  omega
 have s4:fK (mV a a) ≠ 4:=fun h=>by
  have:=(fK_rungs _).1.1 h
  omega
 have sS:fS (mV a a) = false:=decide_eq_false (by omega)
 have hsv:sV (mV a a) = tV (mV a a):=by
  unfold sV
  rw [if_neg s4,if_neg (by rintro (h | h);exact s0 h;omega),if_neg (by rw [sS];decide)]
 obtain ⟨c1,c2,c3⟩:=cutE_mul (M * M) u
 have hpu:(u = 52∧bl (M * M) = 105) ∨ (u = 53∧M ≠ 4503599627370496):=by omega
 have p52':=p52
 have p53':=p53
 obtain ⟨T,hT⟩:∃ T,T = cutE (M * M) u * 2 ^ u:=⟨_,rfl⟩
 rw [← hT] at c1 c2 c3
 have t3:M = 4503599627370496→rS (T * (1024 * 1024)) = 9223372036854775808:=fun hm=>by
  rcases hpu with ⟨q,_⟩ | ⟨_,q⟩
  ·have hT2:T = 4503599627370496 * 4503599627370496:=by
    rw [c3 (by rw [q,hm]),hm]
   exact rS_one hT2
  ·exact absurd hm q
 have sq1:(2 * M - 1) * (2 * M - 1)+4 * M = 4 * (M * M)+1:=by
  obtain ⟨x,hx⟩:∃ x,M = x+1:=⟨M - 1,by omega⟩
  rw [hx,show 2 * (x+1) - 1 = 2 * x+1 by omega,sq_succ,sq_succ]
  have:2 * x * (2 * x) = 4 * (x * x):=by rw [show (4:Nat) = 2 * 2 by decide];ac_rfl
  omega
 have sq2:(2 * M+1) * (2 * M+1) = 4 * (M * M)+4 * M+1:=by
  rw [sq_succ]
  have:2 * M * (2 * M) = 4 * (M * M):=by rw [show (4:Nat) = 2 * 2 by decide];ac_rfl
  omega
 have hb1:(2 * M - 1) * (2 * M - 1) < 4 * T∧4 * T < (2 * M+1) * (2 * M+1):=by
  rcases hpu with ⟨q,_⟩ | ⟨q,q2⟩
  ·rw [q,p52'] at c1 c2
   omega
  ·rw [q,p53'] at c1 c2
   omega
 have hroot:=near_root T M e (by omega) (by omega) (by omega) (by omega) hb1.1 hb1.2 t3
 -- as the root of that number
 have hk:T * 2 ^ (2 * e - 1074) = rv (fR (mV a a)):=by
  rw [fRs,hrs,hT,Nat.mul_assoc,← Nat.pow_add,show u+(2 * e - 1074) = u+2 * e - 1074 by omega]
 have hTb:9007199254740992≤isq (T * 2 ^ 20):=by
  refine big_sqL (t106 (sq_104 (show 4503599627370496≤M by omega)) c2 ?_)
  rcases hpu with ⟨q,_⟩ | ⟨q,_⟩
  ·rw [q,p52'];decide
  ·rw [q,p53'];exact Nat.le_refl _
 rw [show (1024:Nat) * 1024 = 2 ^ 20 by decide] at hroot
 have:=(root_any (mV a a) T (2 * e - 1074) 20 ((e:Int) - 1084) s0 hk (by omega) hTb).1
 rw [hsv,← this,show (e:Int) - 1084 - 1 = (e:Int) - 1085 by omega,hroot,hr]
end Go.Proofs.YtnnfjeieennffaaGreatDoor
namespace Go.Proofs.YtnnfjeieennffaaGreatDoor
open Go.RowKit
def rest7 (N:Nat):Nat:=N - isq N * isq N
theorem next7 (N p:Nat) (hp:p < 4) :
  (4 * rest7 N+p < 4 * isq N+1→isq (4 * N+p) = 2 * isq N∧rest7 (4 * N+p) = 4 * rest7 N+p) ∧
  (¬ 4 * rest7 N+p < 4 * isq N+1→isq (4 * N+p) = 2 * isq N+1∧rest7 (4 * N+p) = 4 * rest7 N+p - (4 * isq N+1)):=by
 obtain ⟨g1,g2⟩:=isq_spec N
 have s1:=sq_succ (isq N)
 have s2:=sq_succ (2 * isq N)
 have s3:=sq_succ (2 * isq N+1)
 have q4:2 * isq N * (2 * isq N) = 4 * (isq N * isq N):=by rw [show (4:Nat) = 2 * 2 by decide];ac_rfl
 unfold rest7
 refine ⟨fun h=>?_,fun h=>?_⟩
 ·have e:isq (4 * N+p) = 2 * isq N:=isq_unique (by omega) (by omega)
  refine ⟨e,?_⟩
  rw [e]
  omega
 ·have e:isq (4 * N+p) = 2 * isq N+1:=isq_unique (by omega) (by omega)
  refine ⟨e,?_⟩
  rw [e]
  omega
theorem rest7_le (N:Nat):rest7 N≤2 * isq N:=by
 obtain ⟨g1,g2⟩:=isq_spec N
 have s1:=sq_succ (isq N)
 unfold rest7
 omega
theorem rest7_zero (N:Nat):rest7 N = 0 ↔ isq N * isq N = N:=by
 obtain ⟨g1,g2⟩:=isq_spec N
 unfold rest7
 omega
theorem isq_lt {N k:Nat} (h:N < k * k):isq N < k:=by
 obtain ⟨g1,g2⟩:=isq_spec N
 exact sq_lt_iff.1 (by omega)
def top7 (n i:Nat):Nat:=n / 4 ^ (32 - i)
theorem top7_zero (n:Nat) (h:n < 18446744073709551616):top7 n 0 = 0:=by
 unfold top7
 rw [show (4:Nat) ^ (32 - 0) = 18446744073709551616 by decide]
 omega
theorem top7_end (n:Nat):top7 n 32 = n:=by
 unfold top7
 simp
theorem top7_succ (n i:Nat) (hi:i < 32):top7 n (i+1) = 4 * top7 n i+n / 2 ^ (2 * (31 - i)) % 4:=by
 unfold top7
 have e:(4:Nat) ^ (32 - i) = 4 ^ (32 - (i+1)) * 4:=by rw [← Nat.pow_succ];congr 1;omega
 have e2:(2:Nat) ^ (2 * (31 - i)) = 4 ^ (32 - (i+1)):=by rw [Nat.pow_mul,show 32 - (i+1) = 31 - i by omega]
 rw [e,e2,← Nat.div_div_eq_div_mul]
 omega
theorem top7_lt (n i:Nat) (h:n < 18446744073709551616):top7 n i < 18446744073709551616:=by
 unfold top7
 exact Nat.lt_of_le_of_lt (Nat.div_le_self _ _) h
theorem isq_top7 (n i:Nat) (h:n < 18446744073709551616):isq (top7 n i) < 4294967296:=isq_lt (Nat.lt_of_lt_of_le (top7_lt n i h) (by decide))
theorem isq_low7 (n i:Nat) (h:n < 18446744073709551616) (hi:i≤22):isq (n * 4 ^ i) < 18014398509481984:=by
 refine isq_lt ?_
 have h1:(4:Nat) ^ i≤4 ^ 22:=Nat.pow_le_pow_right (by decide) hi
 rw [show (4:Nat) ^ 22 = 17592186044416 by decide] at h1
 have h2:n * 4 ^ i≤n * 17592186044416:=Nat.mul_le_mul_left _ h1
 omega
theorem low7_succ (n i:Nat):n * 4 ^ (i+1) = 4 * (n * 4 ^ i)+0:=by rw [Nat.pow_succ];ac_rfl
def nS (b:Nat):Nat:=(fD b).natAbs * 2 ^ (64 - bl (fD b).natAbs - ((dT b) % 2).toNat)
def nT (b:Nat):Int:=dT b+(dT b) % 2
theorem nS_facts (b:Nat) (hb:b < 18446744073709551616) (hf:fFin b = true) (h0:fK b ≠ 0) :
  nS b < 18446744073709551616∧4611686018427387904≤nS b:=by
 obtain ⟨x1,x2,x3,x4,x5,x6,x7,x8⟩:=dS_facts b hb hf h0
 obtain ⟨b1,b2,b3⟩:=bl_spec (fD b).natAbs (by omega)
 unfold nS
 have hp:=Nat.two_pow_pos (64 - bl (fD b).natAbs - ((dT b) % 2).toNat)
 have k1:=(Nat.mul_lt_mul_right hp).2 b3
 have k2:=Nat.mul_le_mul_right (2 ^ (64 - bl (fD b).natAbs - ((dT b) % 2).toNat)) b2
 rw [← Nat.pow_add] at k1 k2
 have k3:2 ^ (bl (fD b).natAbs+(64 - bl (fD b).natAbs - ((dT b) % 2).toNat))≤2 ^ 64:=Nat.pow_le_pow_right (by decide) (by omega)
 have k4:2 ^ 62≤2 ^ (bl (fD b).natAbs - 1+(64 - bl (fD b).natAbs - ((dT b) % 2).toNat)):=Nat.pow_le_pow_right (by decide) (by omega)
 rw [show (2:Nat) ^ 64 = 18446744073709551616 by decide] at k3
 rw [show (2:Nat) ^ 62 = 4611686018427387904 by decide] at k4
 exact ⟨Nat.lt_of_lt_of_le k1 k3,Nat.le_trans k4 k2⟩
theorem nS_root (a:Nat) (ha:a < 18446744073709551616) (fa:fFin a = true) (a0:fK a ≠ 0) :
  rnd (rS (nS a * 4 ^ 22)) (nT a / 2 - 55) = tV a∧rflag (oM (rS (nS a * 4 ^ 22):Nat)).natAbs (oE (rS (nS a * 4 ^ 22):Nat) (nT a / 2 - 55)) = tF a:=by
 obtain ⟨α,x1,x2,x3,x4⟩:=odd_mag a ha fa a0
 obtain ⟨y1,y2,y3,y4,y5,y6,y7,y8⟩:=dS_facts a ha fa a0
 obtain ⟨n1,n2⟩:=nS_facts a ha fa a0
 have hN:nS a * 4 ^ 22 = (fD a).natAbs * 2 ^ (64 - bl (fD a).natAbs - ((dT a) % 2).toNat+44):=by
  unfold nS
  rw [Nat.pow_add,Nat.mul_assoc]
 have hbig:9007199254740992≤isq (nS a * 4 ^ 22):=by
  refine big_sq ?_
  rw [show (2:Nat) ^ 106 = 4611686018427387904 * 4 ^ 22 by decide]
  exact Nat.mul_le_mul_right _ n2
 rw [hN] at hbig ⊢
 have hd:dT a = (bl (fD a).natAbs:Int)+fX a:=rfl
 have hn:nT a = dT a+dT a % 2:=rfl
 have:=root_any a (fD a).natAbs α (64 - bl (fD a).natAbs - ((dT a) % 2).toNat+44) (nT a / 2 - 54) a0 x2.symm (by omega) hbig
 rwa [show nT a / 2 - 54 - 1 = nT a / 2 - 55 by omega] at this
theorem rS_54 (n:Nat) (h:n < 18446744073709551616):rS (n * 4 ^ 22) < 36028797018963968:=by
 have:=isq_low7 n 22 h (by decide)
 unfold rS
 split <;> omega
end Go.Proofs.YtnnfjeieennffaaGreatDoor
