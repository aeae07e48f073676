/- Part 24 of the texts. -/
import Derived.Test.YtnnfjeieennffaaGreatDoorPartf23
import Derived.Test.YtnnfjeieennffaaGreatDoorPartf20
import Derived.Test.YtnnfjeieennffaaGreatDoorPartf04
import Derived.Test.YtnnfjeieennffaaGreatDoorPartf10
import Derived.Test.YtnnfjeieennffaaGreatDoorPartf11
import Derived.BigQuiet
import Derived.Test.YtnnfjeieennffaaGreatDoorPartf12
set_option maxHeartbeats 4000000
set_option maxRecDepth 20000
namespace Go.Proofs.YtnnfjeieennffaaGreatDoor
open Go.RowKit
theorem tV_le (a:Nat):tV a≤9218868437227405312:=rnd_le _ _
theorem sV_lt (a:Nat) (ha:a < 18446744073709551616):sV a < 18446744073709551616:=by
 have h:=tV_le a
 unfold sV
 repeat' split
 all_goals omega
theorem tlow:rnd (2 ^ 61) (-598) = 486 * 4503599627370496:=by decide +kernel
theorem thigh:rnd (2 ^ 1110) (-598) = 1535 * 4503599627370496:=by decide +kernel
theorem two60:(2:Nat) ^ 60 * 2 ^ 60 = 1 * 2 ^ 120:=by decide
theorem two1109:(2:Nat) ^ 1109 * 2 ^ 1109 = 2 ^ 2098 * 2 ^ 120:=by decide +kernel
theorem tS_low (a:Nat) (h0:fK a ≠ 0):2 ^ 60≤isq (rv (fR a) * 2 ^ 120)∧2 ^ 61≤tS a:=by
 have hr:rv (fR a) ≠ 0:=fun e=>h0 ((fK_zero a).2 ((rv_eq0 _).1 e))
 have h1:1 * 2 ^ 120≤rv (fR a) * 2 ^ 120:=Nat.mul_le_mul_right _ (by omega)
 obtain ⟨g1,g2⟩:=isq_spec (rv (fR a) * 2 ^ 120)
 have h2:2 ^ 60 < isq (rv (fR a) * 2 ^ 120)+1:=sq_lt_iff.1 (by rw [two60];exact Nat.lt_of_le_of_lt h1 g2)
 refine ⟨Nat.le_of_lt_succ h2,?_⟩
 have h3:=Nat.le_of_lt_succ h2
 have e:(2:Nat) ^ 61 = 2 * 2 ^ 60:=by decide
 unfold tS rS
 rw [e]
 exact Nat.le_trans (Nat.mul_le_mul_left 2 h3) (Nat.le_add_right _ _)
theorem sq_top {V P c R:Nat} (hV:V < P) (hc:0 < c) (hR:R * R = P * c):isq (V * c) < R:=by
 obtain ⟨g1,g2⟩:=isq_spec (V * c)
 have:V * c < P * c:=(Nat.mul_lt_mul_right hc).2 hV
 exact sq_lt_iff.1 (by rw [hR];omega)
theorem sq_topV {V:Nat} (h:V < 2 ^ 2098):isq (V * 2 ^ 120) < 2 ^ 1109:=by
 have h1:=two1109
 have h2:=Nat.two_pow_pos 120
 generalize (2:Nat) ^ 1109 = R at *
 generalize (2:Nat) ^ 2098 = P at *
 generalize (2:Nat) ^ 120 = c at *
 exact sq_top h h2 h1
theorem e1110:(2:Nat) ^ 1110 = 2 ^ 1109 * 2:=by decide +kernel
theorem rS_lt {N P:Nat} (h:isq N < P):rS N≤P * 2:=by
 unfold rS
 have ht:(if isq N * isq N = N then 0 else 1)≤1:=by split <;> omega
 omega
theorem tV_range (a:Nat) (hf:fFin a = true) (h0:fK a ≠ 0):486 * 4503599627370496≤tV a∧tV a≤1535 * 4503599627370496:=by
 have h1:=fZ_lt a hf
 rw [fZ_abs] at h1
 have h3:=sq_topV h1
 have h4:tS a≤2 ^ 1110:=by
  rw [e1110]
  generalize (2:Nat) ^ 1109 = R at *
  exact rS_lt h3
 refine ⟨?_,?_⟩
 ·rw [← tlow];exact rnd_mono _ (tS_low a h0).2
 ·rw [← thigh];exact rnd_mono _ h4
end Go.Proofs.YtnnfjeieennffaaGreatDoor
namespace Go.Proofs.YtnnfjeieennffaaGreatDoor
open Go.RowKit
theorem cutE_mul (v u:Nat):2 * (cutE v u * 2 ^ u)≤2 * v+2 ^ u∧2 * v≤2 * (cutE v u * 2 ^ u)+2 ^ u∧(v % 2 ^ u = 0→cutE v u * 2 ^ u = v):=by
 have hp:0 < 2 ^ u:=Nat.two_pow_pos _
 have h1:=Nat.div_add_mod v (2 ^ u)
 have h2:=Nat.mod_lt v hp
 rw [Nat.mul_comm] at h1
 unfold cutE
 generalize v / 2 ^ u = q at *
 generalize v % 2 ^ u = r at *
 generalize (2:Nat) ^ u = p at *
 split
 ·rw [Nat.add_mul,Nat.one_mul]
  exact ⟨by omega,by omega,by omega⟩
 ·rw [Nat.add_zero]
  exact ⟨by omega,by omega,by omega⟩
theorem near_digits (T M c d:Nat) (hc:c = 2 * d) (hd:0 < d) (h1:(2 * M - 1) * (2 * M - 1) < 4 * T) (h2:4 * T < (2 * M+1) * (2 * M+1)) :
  (2 * M - 1) * c < rS (T * (c * c))∧rS (T * (c * c)) < (2 * M+1) * c:=by
 obtain ⟨g1,g2⟩:=isq_spec (T * (c * c))
 have hcc:0 < c * c:=Nat.mul_pos (by omega) (by omega)
 have k1:(2 * M - 1) * (2 * M - 1) * (c * c) < 4 * T * (c * c):=(Nat.mul_lt_mul_right hcc).2 h1
 have k2:4 * T * (c * c) < (2 * M+1) * (2 * M+1) * (c * c):=(Nat.mul_lt_mul_right hcc).2 h2
 have k3:4 * T * (c * c) = 4 * (T * (c * c)):=Nat.mul_assoc _ _ _
 rw [k3] at k1 k2
 rw [← sq_mul] at k1 k2
 have ev1:(2 * M - 1) * c = 2 * ((2 * M - 1) * d):=by rw [hc];ac_rfl
 have ev2:(2 * M+1) * c = 2 * ((2 * M+1) * d):=by rw [hc];ac_rfl
 unfold rS
 generalize T * (c * c) = N at *
 generalize isq N = Q at *
 have q4:∀ x:Nat,2 * x * (2 * x) = 4 * (x * x):=fun x=>by rw [show (4:Nat) = 2 * 2 by decide];ac_rfl
 have i1:(2 * M - 1) * c < 2 * (Q+1):=sq_lt_iff.1 (by rw [q4 (Q+1)];omega)
 have i2:2 * Q < (2 * M+1) * c:=sq_lt_iff.1 (by rw [q4 Q];omega)
 split
 ·rename_i h
  have i3:(2 * M - 1) * c < 2 * Q:=sq_lt_iff.1 (by rw [q4 Q];omega)
  exact ⟨by omega,by omega⟩
 ·exact ⟨by omega,by omega⟩
theorem near_root (T M:Nat) (e:Nat) (hM1:4503599627370496≤M) (hM2:M < 9007199254740992) (he:1≤e) (he2:e≤1900)
  (h1:(2 * M - 1) * (2 * M - 1) < 4 * T) (h2:4 * T < (2 * M+1) * (2 * M+1)) (h3:M = 4503599627370496→rS (T * (1024 * 1024)) = 9223372036854775808) :
  rnd (rS (T * (1024 * 1024))) ((e:Int) - 1085) = M+e * 4503599627370496:=by
 obtain ⟨w1,w2⟩:=near_digits T M 1024 512 rfl (by decide) h1 h2
 have w3:9223372036854775808≤rS (T * (1024 * 1024)):=by
  by_cases hm:M = 4503599627370496
  ·rw [h3 hm];exact Nat.le_refl _
  ·omega
 generalize rS (T * (1024 * 1024)) = W at *
 clear h1 h2 h3
 have hb:bl W = 64:=bl_of (by decide) (by have:(2:Nat) ^ (64 - 1) = 9223372036854775808:=(by decide);omega) (by have:(2:Nat) ^ 64 = 18446744073709551616:=(by decide);omega)
 have hl:lastE W ((e:Int) - 1085) = (e:Int) - 1074:=by unfold lastE;rw [hb];omega
 rw [rnd_fin W _ (by omega) (by rw [hb];omega),hl]
 unfold rndM
 rw [hl,show (e:Int) - 1085 - ((e:Int) - 1074) = -((11:Nat):Int) by omega,mS_down _ _ (by decide)]
 have hc:cutE W 11 = M:=by
  unfold cutE
  rw [show (2:Nat) ^ 11 = 2048 by decide]
  by_cases hh:M * 2048≤W
  ·have a1:W / 2048 = M:=by omega
   rw [a1,if_neg (by omega),Nat.add_zero]
  ·have a1:W / 2048 = M - 1:=by omega
   rw [a1,if_pos (by omega)]
   omega
 rw [hc,show ((e:Int) - 1074+1074).toNat = e by omega]
theorem rS_of {N q:Nat} (h:q * q = N):rS N = 2 * q:=by
 have h1:isq N = q:=isq_unique (Nat.le_of_eq h) (by have:=sq_succ q;omega)
 unfold rS
 rw [h1,if_pos h,Nat.add_zero]
theorem rS_one {T:Nat} (h:T = 4503599627370496 * 4503599627370496):rS (T * (1024 * 1024)) = 9223372036854775808 :=
 (rS_of (q:=4611686018427387904) (by rw [h])).trans (by decide)
theorem sq_104 {M:Nat} (h:4503599627370496≤M):20282409603651670423947251286016≤M * M:=Nat.le_trans (by decide) (sq_le h)
theorem big_sqL {T:Nat} (h:81129638414606681695789005144064≤T * 1048576):9007199254740992≤isq (T * 2 ^ 20):=by
 refine big_sq ?_
 have e1:(2:Nat) ^ 106 = 81129638414606681695789005144064:=by decide
 have e2:(2:Nat) ^ 20 = 1048576:=by decide
 rw [e1,e2]
 exact h
theorem t106 {T v p:Nat} (h1:20282409603651670423947251286016≤v) (h2:2 * v≤2 * T+p) (hp:p≤9007199254740992):81129638414606681695789005144064≤T * 1048576:=by omega
theorem bl_105 (M:Nat) (hM1:4503599627370496≤M) (hM2:M < 9007199254740992):bl (M * M) = 105 ∨ (bl (M * M) = 106∧M ≠ 4503599627370496):=by
 have h1:=sq_le hM1
 have h2:=sq_lt hM2
 have e1:(4503599627370496:Nat) * 4503599627370496 = 2 ^ 104:=by decide
 have e2:(9007199254740992:Nat) * 9007199254740992 = 2 ^ 106:=by decide
 rw [e1] at h1
 rw [e2] at h2
 rcases Nat.lt_or_ge (M * M) (2 ^ 105) with h | h
 ·exact .inl (bl_of (by decide) h1 h)
 ·refine .inr ⟨bl_of (by decide) h h2,fun hm=>?_⟩
  rw [hm,e1] at h
  exact absurd h (by decide)
theorem squares7 (a:Nat) (h1:600≤fP a) (h2:fP a≤1400):sV (mV a a) = fR a:=by
 have hP:fP a = fR a / 4503599627370496:=rfl
 have hF:=Nat.div_add_mod (fR a) 4503599627370496
 have hFl:=Nat.mod_lt (fR a) (show 0 < 4503599627370496 by decide)
 obtain ⟨M,hM⟩:∃ M,M = 4503599627370496+fR a % 4503599627370496:=⟨_,rfl⟩
 obtain ⟨e,he⟩:∃ e,fP a = e+1:=⟨fP a - 1,by omega⟩
 have hr:fR a = M+e * 4503599627370496:=by omega
 have hrv:rv (fR a) = M * 2 ^ e:=by rw [hr];exact rv_of M e (by omega) (fun _=>by omega)
 have fa:fFin a = true:=(fK_rungs a).2.2.2 (by omega)
 have k3:fK a ≠ 3∧fK a ≠ 4:=fin_kind fa
 have k0:fK a ≠ 0:=fun h=>by have:=(fK_zero a).1 h;omega
 -- the square,rounded
 have hv:mV a a = rnd (M * M) (2 * (e:Int) - 2148):=by
  rw [(mV_fin a a fa fa k0 k0).1,Bool.xor_self,wrd_false,hrv,show M * 2 ^ e * (M * 2 ^ e) = M * M * 2 ^ (e+e) by rw [Nat.pow_add];ac_rfl,rnd_scale]
  congr 1
  omega
 have hbl:=bl_105 M (by omega) (by omega)
 have hne:M * M ≠ 0:=Nat.mul_ne_zero (by omega) (by omega)
 obtain ⟨u,hu⟩:∃ u,bl (M * M) = u+53:=⟨bl (M * M) - 53,by omega⟩
 have hl:lastE (M * M) (2 * (e:Int) - 2148) = (u:Int)+2 * e - 2148:=by unfold lastE;rw [hu];omega
 have hmb:=rndM_bounds (M * M) (2 * (e:Int) - 2148) hne
 have hMd:rndM (M * M) (2 * (e:Int) - 2148) = cutE (M * M) u:=by
  unfold rndM
  rw [hl,show 2 * (e:Int) - 2148 - ((u:Int)+2 * e - 2148) = -((u:Nat):Int) by omega,mS_down _ _ (by omega)]
 have hs:mV a a = cutE (M * M) u+(u+2 * e - 1074) * 4503599627370496:=by
  rw [hv,rnd_fin _ _ hne (by rw [hu];omega),hl,hMd,show ((u:Int)+2 * e - 2148+1074).toNat = u+2 * e - 1074 by omega]
 rw [hMd] at hmb
 have hlow:=hmb.2.1 (by rw [hl];omega)
 have hrs:rv (mV a a) = cutE (M * M) u * 2 ^ (u+2 * e - 1074):=by rw [hs];exact rv_of _ _ hmb.1 (fun _=>hlow)
 have hslt:mV a a < 9218868437227405312:=by rw [hs];have:=hmb.1;omega
 have fRs:fR (mV a a) = mV a a:=by unfold fR;omega
 have s0:fK (mV a a) ≠ 0:=fun h=>by
  have:=(fK_zero _).1 h
  rw [fRs,hs] at this
  omega
 have s4:fK (mV a a) ≠ 4:=fun h=>by
  have:=(fK_rungs _).1.1 h
  omega
 have sS:fS (mV a a) = false:=decide_eq_false (by omega)
 have hsv:sV (mV a a) = tV (mV a a):=by
  unfold sV
  rw [if_neg s4,if_neg (by rintro (h | h);exact s0 h;omega),if_neg (by rw [sS];decide)]
 obtain ⟨c1,c2,c3⟩:=cutE_mul (M * M) u
 have hpu:(u = 52∧bl (M * M) = 105) ∨ (u = 53∧M ≠ 4503599627370496):=by omega
 have p52':=p52
 have p53':=p53
 obtain ⟨T,hT⟩:∃ T,T = cutE (M * M) u * 2 ^ u:=⟨_,rfl⟩
 rw [← hT] at c1 c2 c3
 have t3:M = 4503599627370496→rS (T * (1024 * 1024)) = 9223372036854775808:=fun hm=>by
  rcases hpu with ⟨q,_⟩ | ⟨_,q⟩
  ·have hT2:T = 4503599627370496 * 4503599627370496:=by
    rw [c3 (by rw [q,hm]),hm]
   exact rS_one hT2
  ·exact absurd hm q
 have sq1:(2 * M - 1) * (2 * M - 1)+4 * M = 4 * (M * M)+1:=by
  obtain ⟨x,hx⟩:∃ x,M = x+1:=⟨M - 1,by omega⟩
  rw [hx,show 2 * (x+1) - 1 = 2 * x+1 by omega,sq_succ,sq_succ]
  have:2 * x * (2 * x) = 4 * (x * x):=by rw [show (4:Nat) = 2 * 2 by decide];ac_rfl
  omega
 have sq2:(2 * M+1) * (2 * M+1) = 4 * (M * M)+4 * M+1:=by
  rw [sq_succ]
  have:2 * M * (2 * M) = 4 * (M * M):=by rw [show (4:Nat) = 2 * 2 by decide];ac_rfl
  omega
 have hb1:(2 * M - 1) * (2 * M - 1) < 4 * T∧4 * T < (2 * M+1) * (2 * M+1):=by
  rcases hpu with ⟨q,_⟩ | ⟨q,q2⟩
  ·rw [q,p52'] at c1 c2
   omega
  ·rw [q,p53'] at c1 c2
   omega
 have hroot:=near_root T M e (by omega) (by omega) (by omega) (by omega) hb1.1 hb1.2 t3
 -- as the root of that number
 have hk:T * 2 ^ (2 * e - 1074) = rv (fR (mV a a)):=by
  rw [fRs,hrs,hT,Nat.mul_assoc,← Nat.pow_add,show u+(2 * e - 1074) = u+2 * e - 1074 by omega]
 have hTb:9007199254740992≤isq (T * 2 ^ 20):=by
  refine big_sqL (t106 (sq_104 (show 4503599627370496≤M by omega)) c2 ?_)
  rcases hpu with ⟨q,_⟩ | ⟨q,_⟩
  ·rw [q,p52'];decide
  ·rw [q,p53'];exact Nat.le_refl _
 rw [show (1024:Nat) * 1024 = 2 ^ 20 by decide] at hroot
 have:=(root_any (mV a a) T (2 * e - 1074) 20 ((e:Int) - 1084) s0 hk (by omega) hTb).1
 rw [hsv,← this,show (e:Int) - 1084 - 1 = (e:Int) - 1085 by omega,hroot,hr]
end Go.Proofs.YtnnfjeieennffaaGreatDoor
namespace Go.Proofs.YtnnfjeieennffaaGreatDoor
open Go.RowKit
def rest7 (N:Nat):Nat:=N - isq N * isq N
theorem next7 (N p:Nat) (hp:p < 4) :
  (4 * rest7 N+p < 4 * isq N+1→isq (4 * N+p) = 2 * isq N∧rest7 (4 * N+p) = 4 * rest7 N+p) ∧
  (¬ 4 * rest7 N+p < 4 * isq N+1→isq (4 * N+p) = 2 * isq N+1∧rest7 (4 * N+p) = 4 * rest7 N+p - (4 * isq N+1)):=by
 obtain ⟨g1,g2⟩:=isq_spec N
 have s1:=sq_succ (isq N)
 have s2:=sq_succ (2 * isq N)
 have s3:=sq_succ (2 * isq N+1)
 have q4:2 * isq N * (2 * isq N) = 4 * (isq N * isq N):=by rw [show (4:Nat) = 2 * 2 by decide];ac_rfl
 unfold rest7
 refine ⟨fun h=>?_,fun h=>?_⟩
 ·have e:isq (4 * N+p) = 2 * isq N:=isq_unique (by omega) (by omega)
  refine ⟨e,?_⟩
  rw [e]
  omega
 ·have e:isq (4 * N+p) = 2 * isq N+1:=isq_unique (by omega) (by omega)
  refine ⟨e,?_⟩
  rw [e]
  omega
theorem rest7_le (N:Nat):rest7 N≤2 * isq N:=by
 obtain ⟨g1,g2⟩:=isq_spec N
 have s1:=sq_succ (isq N)
 unfold rest7
 omega
theorem rest7_zero (N:Nat):rest7 N = 0 ↔ isq N * isq N = N:=by
 obtain ⟨g1,g2⟩:=isq_spec N
 unfold rest7
 omega
theorem isq_lt {N k:Nat} (h:N < k * k):isq N < k:=by
 obtain ⟨g1,g2⟩:=isq_spec N
 exact sq_lt_iff.1 (by omega)
def top7 (n i:Nat):Nat:=n / 4 ^ (32 - i)
theorem top7_zero (n:Nat) (h:n < 18446744073709551616):top7 n 0 = 0:=by
 unfold top7
 rw [show (4:Nat) ^ (32 - 0) = 18446744073709551616 by decide]
 omega
theorem top7_end (n:Nat):top7 n 32 = n:=by
 unfold top7
 simp
theorem top7_succ (n i:Nat) (hi:i < 32):top7 n (i+1) = 4 * top7 n i+n / 2 ^ (2 * (31 - i)) % 4:=by
 unfold top7
 have e:(4:Nat) ^ (32 - i) = 4 ^ (32 - (i+1)) * 4:=by rw [← Nat.pow_succ];congr 1;omega
 have e2:(2:Nat) ^ (2 * (31 - i)) = 4 ^ (32 - (i+1)):=by rw [Nat.pow_mul,show 32 - (i+1) = 31 - i by omega]
 rw [e,e2,← Nat.div_div_eq_div_mul]
 omega
theorem top7_lt (n i:Nat) (h:n < 18446744073709551616):top7 n i < 18446744073709551616:=by
 unfold top7
 exact Nat.lt_of_le_of_lt (Nat.div_le_self _ _) h
theorem isq_top7 (n i:Nat) (h:n < 18446744073709551616):isq (top7 n i) < 4294967296:=isq_lt (Nat.lt_of_lt_of_le (top7_lt n i h) (by decide))
theorem isq_low7 (n i:Nat) (h:n < 18446744073709551616) (hi:i≤22):isq (n * 4 ^ i) < 18014398509481984:=by
 refine isq_lt ?_
 have h1:(4:Nat) ^ i≤4 ^ 22:=Nat.pow_le_pow_right (by decide) hi
 rw [show (4:Nat) ^ 22 = 17592186044416 by decide] at h1
 have h2:n * 4 ^ i≤n * 17592186044416:=Nat.mul_le_mul_left _ h1
 omega
theorem low7_succ (n i:Nat):n * 4 ^ (i+1) = 4 * (n * 4 ^ i)+0:=by rw [Nat.pow_succ];ac_rfl
def nS (b:Nat):Nat:=(fD b).natAbs * 2 ^ (64 - bl (fD b).natAbs - ((dT b) % 2).toNat)
def nT (b:Nat):Int:=dT b+(dT b) % 2
theorem nS_facts (b:Nat) (hb:b < 18446744073709551616) (hf:fFin b = true) (h0:fK b ≠ 0) :
  nS b < 18446744073709551616∧4611686018427387904≤nS b:=by
 obtain ⟨x1,x2,x3,x4,x5,x6,x7,x8⟩:=dS_facts b hb hf h0
 obtain ⟨b1,b2,b3⟩:=bl_spec (fD b).natAbs (by omega)
 unfold nS
 have hp:=Nat.two_pow_pos (64 - bl (fD b).natAbs - ((dT b) % 2).toNat)
 have k1:=(Nat.mul_lt_mul_right hp).2 b3
 have k2:=Nat.mul_le_mul_right (2 ^ (64 - bl (fD b).natAbs - ((dT b) % 2).toNat)) b2
 rw [← Nat.pow_add] at k1 k2
 have k3:2 ^ (bl (fD b).natAbs+(64 - bl (fD b).natAbs - ((dT b) % 2).toNat))≤2 ^ 64:=Nat.pow_le_pow_right (by decide) (by omega)
 have k4:2 ^ 62≤2 ^ (bl (fD b).natAbs - 1+(64 - bl (fD b).natAbs - ((dT b) % 2).toNat)):=Nat.pow_le_pow_right (by decide) (by omega)
 rw [show (2:Nat) ^ 64 = 18446744073709551616 by decide] at k3
 rw [show (2:Nat) ^ 62 = 4611686018427387904 by decide] at k4
 exact ⟨Nat.lt_of_lt_of_le k1 k3,Nat.le_trans k4 k2⟩
theorem nS_root (a:Nat) (ha:a < 18446744073709551616) (fa:fFin a = true) (a0:fK a ≠ 0) :
  rnd (rS (nS a * 4 ^ 22)) (nT a / 2 - 55) = tV a∧rflag (oM (rS (nS a * 4 ^ 22):Nat)).natAbs (oE (rS (nS a * 4 ^ 22):Nat) (nT a / 2 - 55)) = tF a:=by
 obtain ⟨α,x1,x2,x3,x4⟩:=odd_mag a ha fa a0
 obtain ⟨y1,y2,y3,y4,y5,y6,y7,y8⟩:=dS_facts a ha fa a0
 obtain ⟨n1,n2⟩:=nS_facts a ha fa a0
 have hN:nS a * 4 ^ 22 = (fD a).natAbs * 2 ^ (64 - bl (fD a).natAbs - ((dT a) % 2).toNat+44):=by
  unfold nS
  rw [Nat.pow_add,Nat.mul_assoc]
 have hbig:9007199254740992≤isq (nS a * 4 ^ 22):=by
  refine big_sq ?_
  rw [show (2:Nat) ^ 106 = 4611686018427387904 * 4 ^ 22 by decide]
  exact Nat.mul_le_mul_right _ n2
 rw [hN] at hbig ⊢
 have hd:dT a = (bl (fD a).natAbs:Int)+fX a:=rfl
 have hn:nT a = dT a+dT a % 2:=rfl
 have:=root_any a (fD a).natAbs α (64 - bl (fD a).natAbs - ((dT a) % 2).toNat+44) (nT a / 2 - 54) a0 x2.symm (by omega) hbig
 rwa [show nT a / 2 - 54 - 1 = nT a / 2 - 55 by omega] at this
theorem rS_54 (n:Nat) (h:n < 18446744073709551616):rS (n * 4 ^ 22) < 36028797018963968:=by
 have:=isq_low7 n 22 h (by decide)
 unfold rS
 split <;> omega
end Go.Proofs.YtnnfjeieennffaaGreatDoor
namespace Go.Proofs.YtnnfjeieennffaaGreatDoor
open Go.RowKit
def BoxP (w:World) (b:Nat) (x y:Value):Prop:=w.heap[b]? = some (.cells #[x,y] 204 (0,0))
theorem BoxP.c0 {w:World} {b:Nat} {x y:Value} (h:BoxP w b x y):w.cell? ⟨b,0,none⟩ = some x:=by rw [cell_of_row w b 0 _ _ _ h];rfl
theorem BoxP.c1 {w:World} {b:Nat} {x y:Value} (h:BoxP w b x y):w.cell? ⟨b,1,none⟩ = some y:=by rw [cell_of_row w b 1 _ _ _ h];rfl
theorem BoxP.free {w:World} {b:Nat} {x y:Value} (h:BoxP w b x y) (j:Nat):w.frozen? ⟨b,j,none⟩ = false:=frozen_of_row w b j _ _ h
theorem BoxP.lt {w:World} {b:Nat} {x y:Value} (h:BoxP w b x y):b < w.heap.size:=(Array.getElem?_eq_some_iff.1 h).1
theorem BoxP.all {w w':World} {b:Nat} {x y:Value} (h:BoxP w b x y) (hb:Below w.heap.size w w'):BoxP w' b x y:=(hb.block b h.lt).trans h
theorem BoxP.new (w:World) (x y:Value):BoxP (w.alloc (.cells #[x,y] 204)) w.heap.size x y:=heap_alloc_new w _
theorem or_pair (s p:Nat) (hs:s < 144115188075855872) (hp:p < 4):bits BinOp.or IntKind.u64 ((s:Int) * 4) (p:Int) = ((4 * s+p:Nat):Int):=by
 have e:(s:Int) * 4 = ((s * 2 ^ 2:Nat):Int):=by omega
 rw [e,u64_or_nat (s * 2 ^ 2) p (by omega) (by omega),Nat.or_comm,or_above p s 2 (by omega)]
 congr 1
 omega
theorem or_one (x:Nat) (h:x < 144115188075855872):bits BinOp.or IntKind.u64 ((x:Int) * 2) 1 = ((2 * x+1:Nat):Int):=by
 have e:(x:Int) * 2 = ((x * 2 ^ 1:Nat):Int):=by omega
 rw [e]
 refine (u64_or_nat (x * 2 ^ 1) 1 (by omega) (by omega)).trans ?_
 rw [Nat.or_comm,or_above 1 x 1 (by omega)]
 congr 1
 omega
theorem BoxP.put {w:World} {b:Nat} {x y:Value} (h:BoxP w b x y) (u u':Value):BoxP ((w.setCell ⟨b,0,none⟩ u).setCell ⟨b,1,none⟩ u') b u u':=by
 have h1:=heap_setCell_same w b 0 _ _ u h
 have h2:=heap_setCell_same (w.setCell ⟨b,0,none⟩ u) b 1 _ _ u' h1
 unfold BoxP
 rw [h2]
 simp
theorem BoxP.oth {w:World} {b g:Nat} {x y:Value} (h:BoxP w b x y) (hne:b ≠ g) (u u':Value):BoxP ((w.setCell ⟨g,0,none⟩ u).setCell ⟨g,1,none⟩ u') b x y :=
 (Below.heap_setCell _ ⟨g,1,none⟩ u' b hne).trans ((Below.heap_setCell w ⟨g,0,none⟩ u b hne).trans h)
theorem below_putP {B g:Nat} {a w:World} (h:Below B a w) (hg:B≤g) (u u':Value):Below B a ((w.setCell ⟨g,0,none⟩ u).setCell ⟨g,1,none⟩ u'):=(h.setCell hg u).setCell hg u'
theorem pnext_n (r s p x y z:Nat) (w:World) (hr:r < 18014398509481984) (hs:s≤2 * r) (hc:(x:Int) < (y:Int))
  (o1:bits BinOp.or IntKind.u64 ((s:Int) * 4) (p:Int) = (x:Int)) (o2:bits BinOp.or IntKind.u64 ((r:Int) * 2 * 2) 1 = (y:Int)) (hz:(r:Int) * 2 = (z:Int)) :
  Calls Tryz.prog 219 #[.agg #[.int .u64 r,.int .u64 s],.int .u64 p] w fun e w'=>e = .returned (.agg #[.int .u64 (z:Nat),.int .u64 (x:Nat)])∧Below w.heap.size w w':=by
 have hc':=decide_eq_true hc
 have HZ:=hide hz
 clear hz
 go_enter Tryz.func219,Tryz.ntmps219
 go_wp2
 go_quiet (fail)
 go_wp2
 rw [uH HZ]
 refine bodyPost_ret (v:=.agg #[.int .u64 (z:Nat),.int .u64 (x:Nat)]) (by simp [results,Tryz.results219,go_sem]) rfl ⟨rfl,?_⟩
 exact (((below_drewN (((Below.refl _ _).alloc (Nat.le_refl _) _).alloc (by simp) _) _).setCell (by simp) _).setCell (by simp) _)
theorem pnext_m (r s p x y z d:Nat) (w:World) (hr:r < 18014398509481984) (hs:s≤2 * r) (hc:¬ (x:Int) < (y:Int)) (hd:(x:Int) - (y:Int) = (d:Int))
  (o1:bits BinOp.or IntKind.u64 ((s:Int) * 4) (p:Int) = (x:Int)) (o2:bits BinOp.or IntKind.u64 ((r:Int) * 2 * 2) 1 = (y:Int)) (o3:bits BinOp.or IntKind.u64 ((r:Int) * 2) 1 = (z:Int)) (hx:x < 18446744073709551616) :
  Calls Tryz.prog 219 #[.agg #[.int .u64 r,.int .u64 s],.int .u64 p] w fun e w'=>e = .returned (.agg #[.int .u64 (z:Nat),.int .u64 (d:Nat)])∧Below w.heap.size w w':=by
 have hc':=decide_eq_false hc
 have HD:=hide hd
 clear hd
 go_enter Tryz.func219,Tryz.ntmps219
 go_wp2
 go_quiet (fail)
 go_wp2
 rw [uH HD]
 refine bodyPost_ret (v:=.agg #[.int .u64 (z:Nat),.int .u64 (d:Nat)]) (by simp [results,Tryz.results219,go_sem]) rfl ⟨rfl,?_⟩
 exact (((below_drewN (((Below.refl _ _).alloc (Nat.le_refl _) _).alloc (by simp) _) _).setCell (by simp) _).setCell (by simp) _)
end Go.Proofs.YtnnfjeieennffaaGreatDoor
namespace Go.Proofs.YtnnfjeieennffaaGreatDoor
open Go.RowKit
theorem reckon_ways (n:Nat) (P R S:Nat→Nat) (w:World) (h0:R 0 = 0∧S 0 = 0)
  (C:∀ i,i < 32→∀ w',Calls Tryz.prog 219 #[.agg #[.int .u64 (R i:Nat),.int .u64 (S i:Nat)],.int .u64 (P i:Nat)] w' fun e w''=>e = .returned (.agg #[.int .u64 (R (i+1):Nat),.int .u64 (S (i+1):Nat)])∧Below w'.heap.size w' w'')
  (hP:∀ i,i < 32→bits .and .u64 ((n:Int) / 2 ^ (2 * (31 - i))) 3 = (P i:Int)) :
  Calls Tryz.prog 218 #[.int .u64 n] w fun e w'=>e = .returned (.agg #[.int .u64 (R 32:Nat),.int .u64 (S 32:Nat)])∧Below w.heap.size w w':=by
 have H0:=hide h0;have HC:=hide C;have HP:=hide hP
 clear h0 C hP
 go_enter Tryz.func218,Tryz.ntmps218
 go_wp2
 go_loopw [6] (fun i wr=>∃ k:Nat,k≤32∧i = .int .i64 k∧Hid (BoxP wr w.heap.size (.int .u64 0) (.int .u64 0))∧Hid (BoxP wr (w.heap.size+1) (.int .u64 (R k:Nat)) (.int .u64 (S k:Nat)))∧Hid (Below w.heap.size w wr)) (fun i _=>32 - (intOf i).toNat)
 case atStart =>
  have h:=uH H0
  refine ⟨0,by omega,rfl,hide ?_,hide ?_,hide (((Below.refl _ _).alloc (Nat.le_refl _) _).alloc (by simp) _)⟩
  ·exact (BoxP.new w (.int .u64 0) (.int .u64 0)).all ((Below.refl _ _).alloc (Nat.le_refl _) _)
  ·rw [h.1,h.2]
   have:=BoxP.new (w.alloc (.cells #[.int .u64 0,.int .u64 0] 204)) (.int .u64 0) (.int .u64 0)
   simpa using this
 case round =>
  obtain ⟨k,hk,rfl,hx,hy,hb⟩:=hrel
  by_cases hlt:k < 32
  ·have K1:=hide (uH HC k hlt)
   have hp:=uH HP k hlt
   have y0:=(uH hy).c0;have y1:=(uH hy).c1;have f0:=(uH hy).free 0;have f1:=(uH hy).free 1
   have b0:(0:Int)≤(k:Int):=by omega
   have b1:(k:Int) < 32:=by omega
   obtain ⟨d,hd⟩:∃ d:Nat,d = 2 * (31 - k):=⟨_,rfl⟩
   have e1:IntKind.i64.wrap (31 - (k:Int)) = ((31 - k:Nat):Int):=by rw [wrap_small _ (by omega)];omega
   have e2:IntKind.i64.wrap (2 * ((31 - k:Nat):Int)) = (d:Int):=by rw [wrap_small _ (by omega)];omega
   have d0:d≤63:=by omega
   rw [← hd] at hp
   have HD:=hide hd
   clear HC HP H0 hd
   generalize 31 - k = c at *
   generalize R k = r at *
   generalize S k = s at *
   generalize P k = p at *
   obtain ⟨r1,hr1⟩:∃ x,x = R (k+1):=⟨_,rfl⟩
   obtain ⟨s1,hs1⟩:∃ x,x = S (k+1):=⟨_,rfl⟩
   rw [← hr1,← hs1] at K1
   have NR:=hide hr1.symm;have NS:=hide hs1.symm
   clear hr1 hs1
   go_wp2_with fail
   have xd:BoxP wr.drew w.heap.size (.int .u64 0) (.int .u64 0):=uH hx
   have yd:BoxP wr.drew (w.heap.size+1) (.int .u64 (r:Nat)) (.int .u64 (s:Nat)):=uH hy
   have hbd:Below w.heap.size w wr.drew:=(uH hb).drew
   have XD:=hide xd;have YD:=hide yd;have BD:=hide hbd
   clear xd yd hbd
   go_region_with (go_at_call 219;refine (uH K1 _).mono ?_;rintro e w1 ⟨rfl,hb1⟩;have x1:=(uH YD).all hb1;have B1:=hide ((uH BD).trans (hb1.mono (uH BD).size));have X1:=hide ((uH XD).all hb1);clear hb1 y0 y1 f0 f1;have y0:=x1.c0;have y1:=x1.c1;have f0:=x1.free 0;have f1:=x1.free 1;have YB:=hide x1;clear x1)
   go_wp2
   go_roundw
   case rel =>
    refine ⟨k+1,by omega,by go_num,hide ?_,hide ?_,hide ?_⟩
    ·exact (uH X1).oth (by omega) _ _
    ·rw [uH NR,uH NS]
     exact (uH YB).put _ _
    ·exact below_putP (uH B1) (by omega) _ _
   case measure=>simp [intOf];omega
  ·have hk2:k = 32:=by omega
   subst hk2
   have y0:=(uH hy).c0;have y1:=(uH hy).c1
   have x0:=(uH hx).c0;have x1:=(uH hx).c1;have f0:=(uH hx).free 0;have f1:=(uH hx).free 1
   clear HC HP H0
   obtain ⟨r,hr⟩:∃ x,x = R 32:=⟨_,rfl⟩
   obtain ⟨s,hs⟩:∃ x,x = S 32:=⟨_,rfl⟩
   rw [← hr] at y0
   rw [← hs] at y1
   have HR:=hide hr;have HS:=hide hs
   clear hr hs
   go_wp2
   refine bodyPost_ret (v:=.agg #[.int .u64 (r:Nat),.int .u64 (s:Nat)]) ?_ rfl ⟨by rw [uH HR,uH HS],below_putP (uH hb) (Nat.le_refl _) _ _⟩
   have z:=(uH hx).put (.int .u64 (r:Nat)) (.int .u64 (s:Nat))
   have z0:=z.c0;have z1:=z.c1
   simp [results,Tryz.results218,go_sem,z0,z1]
theorem rootBehind_ways (n X:Nat) (R S:Nat→Nat) (w:World)
  (C1:∀ w',Calls Tryz.prog 218 #[.int .u64 n] w' fun e w''=>e = .returned (.agg #[.int .u64 (R 0:Nat),.int .u64 (S 0:Nat)])∧Below w'.heap.size w' w'')
  (C2:∀ i,i < 22→∀ w',Calls Tryz.prog 219 #[.agg #[.int .u64 (R i:Nat),.int .u64 (S i:Nat)],.int .u64 0] w' fun e w''=>e = .returned (.agg #[.int .u64 (R (i+1):Nat),.int .u64 (S (i+1):Nat)])∧Below w'.heap.size w' w'')
  (hR:R 22 < 18014398509481984) (hX:X = 2 * R 22+(if S 22 = 0 then 0 else 1)) :
  Calls Tryz.prog 213 #[.int .u64 n] w fun e w'=>e = .returned (.int .i64 (X:Nat))∧Below w.heap.size w w':=by
 have K1:=hide C1;have K2:=hide C2;have HX:=hide hX;have HR:=hide hR
 clear C1 C2 hX hR
 go_enter Tryz.func213,Tryz.ntmps213
 go_wp2_with fail
 refine (uH K1 _).mono ?_
 rintro e w1 ⟨rfl,hb1⟩
 have x:=hide (BoxP.new w1 (.int .u64 (R 0:Nat)) (.int .u64 (S 0:Nat)))
 have B1:=hide (hb1.trans (((Below.refl _ _).alloc (Nat.le_refl _) (.cells #[.int .u64 (R 0:Nat),.int .u64 (S 0:Nat)] 204)).mono hb1.size))
 have hg:=hb1.size
 clear K1 hb1
 go_wp2
 go_loopw [7] (fun i wr=>∃ k:Nat,k≤22∧i = .int .i64 k∧Hid (BoxP wr w1.heap.size (.int .u64 (R k:Nat)) (.int .u64 (S k:Nat)))∧Hid (Below w.heap.size w wr)) (fun i _=>22 - (intOf i).toNat)
 case atStart=>exact ⟨0,by omega,rfl,x,B1⟩
 case round =>
  obtain ⟨k,hk,rfl,hy,hb⟩:=hrel
  clear x B1
  by_cases hlt:k < 22
  ·have C:=hide (uH K2 k hlt)
   have y0:=(uH hy).c0;have y1:=(uH hy).c1
   have b0:(0:Int)≤(k:Int):=by omega
   have b1:(k:Int) < 22:=by omega
   obtain ⟨r1,hr1⟩:∃ x,x = R (k+1):=⟨_,rfl⟩
   obtain ⟨s1,hs1⟩:∃ x,x = S (k+1):=⟨_,rfl⟩
   rw [← hr1,← hs1] at C
   have NR:=hide hr1.symm;have NS:=hide hs1.symm
   clear K2 HX HR hr1 hs1
   generalize R k = r at *
   generalize S k = s at *
   go_wp2_with fail
   refine (uH C _).mono ?_
   rintro e w2 ⟨rfl,hb2⟩
   have x1:=(uH hy).all hb2
   have B2:=hide ((uH hb).trans (hb2.mono (uH hb).size))
   clear hb2 y0 y1 hy hb C
   have y0:=x1.c0;have y1:=x1.c1;have f0:=x1.free 0;have f1:=x1.free 1
   have YB:=hide x1
   clear x1
   go_wp2
   go_roundw
   case rel =>
    refine ⟨k+1,by omega,by go_num,hide ?_,hide (below_putP (uH B2) (by omega) _ _)⟩
    rw [uH NR,uH NS]
    exact (uH YB).put _ _
   case measure=>simp [intOf];omega
  ·have hk2:k = 22:=by omega
   subst hk2
   have y0:=(uH hy).c0;have y1:=(uH hy).c1
   have r0:=uH HR
   clear K2 HR
   generalize R 22 = r at *
   generalize S 22 = s at *
   by_cases c:0 < s
   ·have M:=hide (show X = 2 * r+1 by rw [uH HX,if_neg (by omega)])
    have c':(s:Int) > 0:=by omega
    clear HX
    go_wp2
    go_ret
    exact ⟨ret_int (by rw [uH M];omega),uH hb⟩
   ·have M:=hide (show X = 2 * r by rw [uH HX,if_pos (by omega)];rfl)
    have c':¬ (s:Int) > 0:=by omega
    clear HX
    go_wp2
    go_ret
    exact ⟨ret_int (by rw [uH M];omega),uH hb⟩
end Go.Proofs.YtnnfjeieennffaaGreatDoor
