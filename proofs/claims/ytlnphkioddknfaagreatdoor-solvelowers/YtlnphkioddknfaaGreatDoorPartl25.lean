/- Part 25 of the texts. -/
import Derived.Test.YtlnphkioddknfaaGreatDoorPartl24
import Derived.Test.YtlnphkioddknfaaGreatDoorPartl20
import Derived.Test.YtlnphkioddknfaaGreatDoorPartl04
import Derived.Test.YtlnphkioddknfaaGreatDoorPartl10
import Derived.BigQuiet
import Derived.Test.YtlnphkioddknfaaGreatDoorPartl11
set_option maxHeartbeats 4000000
set_option maxRecDepth 20000
namespace Go.Proofs.YtlnphkioddknfaaGreatDoor
open Go.RowKit
theorem fmul_ok (x y:Nat) (hx:x < 18446744073709551616) (hy:y < 18446744073709551616) (h:mN x y = false) (i:TypeId) (w:World) :
  (binOp .mul i (.float .f64 x) (.float .f64 y)).run Tryz.prog w = .ok (.float .f64 (mV x y)) w:=by
 have:=fmul_run i x y w
 rw [fmul_some x y hx hy h] at this
 exact this
theorem mN_fin {x y:Nat} (fx:fFin x = true) (fy:fFin y = true):mN x y = false:=by
 obtain ⟨a3,a4⟩:=fin_kind fx
 obtain ⟨b3,b4⟩:=fin_kind fy
 unfold mN
 exact decide_eq_false (by omega)
theorem rv_one:rv 4607182418800017408 = 2 ^ 1074:=by
 have:=gM_rv 4607182418800017408 (by decide)
 rw [this,show gM 4607182418800017408 = 2 ^ 52 by decide,show 4607182418800017408 / 4503599627370496 - 1 = 1022 by decide]
 exact pow_join 52 1022 1074 (by decide)
theorem wrd_fin {s:Bool} {v:Nat} (h:v < 9218868437227405312):fFin (wrd s v) = true:=(fK_rungs _).2.2.2 (by rw [fR_wrd s v (by omega)];exact h)
theorem wrd_ne0 {s:Bool} {v:Nat} (h:v < 9218868437227405312) (h0:v ≠ 0):fK (wrd s v) ≠ 0:=fun e=>h0 (by have:=(fK_zero _).1 e;rwa [fR_wrd s v (by omega)] at this)
theorem mul_one8 (s:Bool) (v:Nat) (h:v < 9218868437227405312) (h0:v ≠ 0):mV 4607182418800017408 (wrd s v) = wrd s v:=by
 have f2:fFin 4607182418800017408 = true:=by decide
 have k2:fK 4607182418800017408 ≠ 0:=by decide
 have s2:fS 4607182418800017408 = false:=by decide
 have r2:fR 4607182418800017408 = 4607182418800017408:=by decide
 obtain ⟨K,hK⟩:∃ K:Nat,K = 1074:=⟨_,rfl⟩
 have r3:=rv_one
 rw [← hK] at r3
 have hr:=rnd_rv (wrd s v) (wrd_lt s v (by omega)) (wrd_fin h)
 rw [fR_wrd s v (by omega)] at hr
 rw [(mV_fin _ _ f2 (wrd_fin h) k2 (wrd_ne0 h h0)).1,s2,r2,r3,fR_wrd s v (by omega),fS_wrd s v (by omega),Bool.false_xor,Nat.mul_comm,rnd_scale1 _ _ _ (-1074) (by omega),hr]
theorem order_mag (r c:Nat) (hr:r≤9218868437227405312) (hc:c≤9218868437227405312):Ieee.double.order r c = some (compare (rv r:Int) (rv c:Int)):=by
 have:=order_wrd false false r c hr hc
 rw [wrd_false,wrd_false] at this
 exact this
theorem order_mag_lt {r c:Nat} (hc:c≤9218868437227405312) (h:r < c):Ieee.double.order r c = some .lt:=by
 rw [order_mag r c (by omega) hc,Int.compare_eq_lt.2 (by have:=rv8_lt h;omega)]
theorem order_mag_gt {r c:Nat} (hr:r≤9218868437227405312) (h:c < r):Ieee.double.order r c = some .gt:=by
 rw [order_mag r c hr (by omega),Int.compare_eq_gt.2 (by have:=rv8_lt h;omega)]
theorem order_mag_eq (r:Nat) (hr:r≤9218868437227405312):Ieee.double.order r r = some .eq:=by
 rw [order_mag r r hr hr,Int.compare_eq_eq.2 rfl]
theorem fZ_0:fZ 0 = 0:=by decide
theorem order_0 (a:Nat) (ha:a < 18446744073709551616) (n4:fK a ≠ 4):Ieee.double.order a 0 = some (compare (fZ a) 0):=by
 have:=order_bits a 0 ha (by decide) n4 (by decide)
 rwa [fZ_0] at this
theorem order_0_sign (a:Nat) (ha:a < 18446744073709551616) (n4:fK a ≠ 4) (n0:fK a ≠ 0):Ieee.double.order a 0 = if fS a = true then some .lt else some .gt:=by
 obtain ⟨h1,h2⟩:=fZ_neg8 a n0
 rw [order_0 a ha n4,← h2]
 by_cases h:fZ a < 0
 ·rw [decide_eq_true h,if_pos rfl,Int.compare_eq_lt.2 h]
 ·rw [decide_eq_false h,if_neg (by decide),Int.compare_eq_gt.2 (by omega)]
theorem isInf8_any (a:Nat) (w:World) (ha:a < 18446744073709551616) :
  Calls Tryz.prog 207 #[.float .f64 a,.int .i64 0] w fun r w'=>r = .returned (.bool (decide (fK a = 3)))∧w = w':=by
 obtain ⟨r1,r2,r3⟩:=fK_rungs a
 have hl:=fR_lt a
 have C1:=fun w'=>mabs_any a w' ha
 by_cases h4:fK a = 4
 ·rw [decide_eq_false (by omega)]
  have e:fK (fR a) = 4:=by rw [← h4];exact fK_same (by unfold fR;omega)
  exact isInf_of a (fR a) none false w (order_nan _ _ (by omega) (by decide) (.inl e)) (.inl ⟨rfl,rfl⟩) C1
 ·have h5:fR a≤9218868437227405312:=Nat.le_of_not_lt fun h=>h4 (r1.2 h)
  by_cases h3:fK a = 3
  ·rw [decide_eq_true h3]
   exact isInf_of a (fR a) _ true w (order_mag_gt h5 (by have:=r2.1 h3;omega)) (.inr (.inr (.inr ⟨rfl,rfl⟩))) C1
  ·rw [decide_eq_false h3]
   have h6:fR a ≠ 9218868437227405312:=fun h=>h3 (r2.2 h)
   by_cases h7:fR a = 9218868437227405311
   ·rw [h7] at C1
    exact isInf_of a _ _ false w (order_mag_eq _ (by decide)) (.inr (.inr (.inl ⟨rfl,rfl⟩))) C1
   ·exact isInf_of a (fR a) _ false w (order_mag_lt (by decide) (by omega)) (.inr (.inl ⟨rfl,rfl⟩)) C1
theorem isNaN8_any (a:Nat) (w:World) (ha:a < 18446744073709551616) :
  Calls Tryz.prog 208 #[.float .f64 a] w fun r w'=>r = .returned (.bool (decide (fK a = 4)))∧w = w':=by
 by_cases h4:fK a = 4
 ·rw [decide_eq_true h4]
  exact isNaN_of a _ _ w (order_nan a a ha ha (.inl h4)) (.inl ⟨rfl,rfl⟩)
 ·rw [decide_eq_false h4]
  exact isNaN_of a _ _ w (by rw [show FloatKind.f64.format.order a a = Ieee.double.order a a from rfl,order_bits a a ha ha h4 h4,Int.compare_eq_eq.2 rfl]) (.inr ⟨rfl,rfl⟩)
theorem norm8_any (a:Nat) (ha:a < 18446744073709551616) (fa:fFin a = true) (a0:fK a ≠ 0) :
  ∃ (q:Nat) (e:Int),(∀ w,Calls Tryz.prog 209 #[.float .f64 a] w fun s w'=>s = .returned (.tuple #[.float .f64 (wrd (fS a) q),.int .i64 e])∧w = w') ∧
   -52≤e∧e≤0∧4503599627370496≤q∧q < 9218868437227405312∧∀ n:Int,rnd (rv (fR a)) (n - 1074) = rnd (rv q) (n+e - 1074):=by
 have hr:=fR_fin a fa
 have C1:=fun w'=>mabs_any a w' ha
 by_cases h:fR a < 4503599627370496
 ·have h0:fR a ≠ 0:=fun e=>a0 ((fK_zero a).2 e)
  obtain ⟨q,q1,q2,q3,q4⟩:=scale_up52 (fS a) (fR a) h0 h
  rw [b_wrd a ha] at q1
  refine ⟨q,-52,fun w=>?_,by decide,by decide,q2,q3,fun n=>by rw [q4];congr 1⟩
  refine normalize_of a (fR a) (wrd (fS a) q) (-52) _ w (order_mag_lt (by decide) h) (.inl ⟨rfl,rfl,fun i w'=>?_⟩) C1
  rw [← q1]
  exact fmul_ok a _ ha (by decide) (mN_fin fa (by decide)) i w'
 ·refine ⟨fR a,0,fun w=>?_,by decide,by decide,by omega,hr,fun n=>by congr 1;omega⟩
  rw [b_wrd a ha]
  by_cases h7:fR a = 4503599627370496
  ·rw [h7] at C1
   exact normalize_of a _ a 0 _ w (order_mag_eq _ (by decide)) (.inr (.inl ⟨rfl,rfl,rfl⟩)) C1
  ·exact normalize_of a (fR a) a 0 _ w (order_mag_gt (by omega) (by omega)) (.inr (.inr ⟨rfl,rfl,rfl⟩)) C1
theorem ldexp_fin (a:Nat) (n:Int) (w:World) (ha:a < 18446744073709551616) (fa:fFin a = true) (a0:fK a ≠ 0) (hn:-5000≤n∧n≤5000) :
  Calls Tryz.prog 173 #[.float .f64 a,.int .i64 n] w fun r w'=>r = .returned (.float .f64 (wrd (fS a) (rnd (rv (fR a)) (n - 1074))))∧w = w':=by
 obtain ⟨q,e,C3,e1,e2,q1,q2,hN⟩:=norm8_any a ha fa a0
 obtain ⟨a3,a4⟩:=fin_kind fa
 have C1:=fun w'=>isInf8_any a w' ha
 rw [decide_eq_false a3] at C1
 have C2:=fun w'=>isNaN8_any a w' ha
 rw [decide_eq_false a4] at C2
 rw [hN n]
 obtain ⟨s,hs⟩:∃ s,s = fS a:=⟨_,rfl⟩
 have hO:FloatKind.f64.format.order a 0 = (if s = true then some .lt else some .gt):=by rw [hs];exact order_0_sign a ha a4 a0
 have ho:(if s = true then some Ordering.lt else some Ordering.gt) = some .lt ∨ (if s = true then some Ordering.lt else some Ordering.gt) = some .gt:=by cases s <;> simp
 rw [← hs] at C3 ⊢
 obtain ⟨x,hx⟩:∃ x,x = wrd s q:=⟨_,rfl⟩
 have hxl:x < 18446744073709551616:=by rw [hx];exact wrd_lt s q (by omega)
 have xR:fR x = q:=by rw [hx];exact fR_wrd s q (by omega)
 have xS:fS x = s:=by rw [hx];exact fS_wrd s q (by omega)
 have xf:fFin x = true:=by rw [hx];exact wrd_fin q2
 have x0:fK x ≠ 0:=by rw [hx];exact wrd_ne0 q2 (by omega)
 have x4:=(fin_kind xf).2
 rw [← hx] at C3
 have hp:fP x = q / 4503599627370496:=by rw [← xR];rfl
 have hA:bits .and .i64 ((x:Int) / 4503599627370496) 2047 = ((fP x:Nat):Int):=by
  have:=and_2047 (x / 4503599627370496) (by omega)
  rw [show ((x:Int) / 4503599627370496) = ((x / 4503599627370496:Nat):Int) by omega]
  refine this.trans ?_
  unfold fP
  congr 1
  omega
 have hB:=fun W=>tobits5 x W
 obtain ⟨E,hE⟩:∃ E:Int,n+e+((fP x:Int) - 1023) = E:=⟨_,rfl⟩
 have hpl:=fP_lt x
 have hS:=scale_normal q (n+e) E q1 (by rw [← hE,hp];omega)
 rw [hS]
 have hq:(x:Int) / 4503599627370496 < 4096:=by omega
 have hqm:q % 4503599627370496 < 4503599627370496:=Nat.mod_lt _ (by decide)
 rcases (show E < -1075 ∨ 1023 < E ∨ (-1022≤E∧E≤1023) ∨ (-1075≤E∧E < -1022) by omega) with h | h | h | h
 ·rw [scale_low q E h]
  have C4:=fun w'=>copysign0_any x w' hxl
  rw [xS] at C4
  exact ldexp_low a x (wrd s 0) (fP x) n e E _ w hO ho hpl hn ⟨e1,e2⟩ hq hA hE h C1 C2 C3 C4 hB
 ·rw [scale_high q E h]
  have hO2:FloatKind.f64.format.order x 0 = (if s = true then some .lt else some .gt):=by rw [← xS];exact order_0_sign x hxl x4 x0
  refine ldexp_high a x (wrd s 9218868437227405312) (fP x) n e E _ _ w hO ho hO2 ?_ hpl hn ⟨e1,e2⟩ hq hA hE h C1 C2 C3 hB
  cases s
  ·exact .inr ⟨rfl,rfl⟩
  ·exact .inl ⟨rfl,rfl⟩
 ·rw [scale_mid q E h.1 h.2]
  obtain ⟨k,hk⟩:∃ k:Nat,k = (E+1023).toNat:=⟨_,rfl⟩
  have hk2:(E+1023) * 4503599627370496 = ((k * 4503599627370496:Nat):Int):=by omega
  rw [← hk]
  have hV:=or_mid s (q % 4503599627370496) k hqm (by omega)
  have hv:q % 4503599627370496+k * 4503599627370496 < 9218868437227405312:=by omega
  have hv0:q % 4503599627370496+k * 4503599627370496 ≠ 0:=by omega
  have hY:=andNot_mid s q (by omega)
  rw [← hx] at hY
  refine ldexp_mid a x _ _ _ (fP x) n e E _ w hO ho hpl hn ⟨e1,e2⟩ hq hA hE h.1 h.2 hY (by rw [hk2];exact hV) (fun W=>frombits5 _ W) (fun i w'=>?_) C1 C2 C3 hB
  have:=fmul_ok 4607182418800017408 (wrd s (q % 4503599627370496+k * 4503599627370496)) (by decide) (wrd_lt _ _ (by omega)) (mN_fin (by decide) (wrd_fin hv)) i w'
  rw [mul_one8 s _ hv hv0] at this
  exact this
 ·obtain ⟨k,hk⟩:∃ k:Nat,k = (E+53+1023).toNat:=⟨_,rfl⟩
  have hk2:(E+53+1023) * 4503599627370496 = ((k * 4503599627370496:Nat):Int):=by omega
  have hZ:=scale_sub s q E h.1 h.2
  rw [← hk] at hZ
  have hV:=or_mid s (q % 4503599627370496) k hqm (by omega)
  have hv:q % 4503599627370496+k * 4503599627370496 < 9218868437227405312:=by omega
  have hY:=andNot_mid s q (by omega)
  rw [← hx] at hY
  refine ldexp_sub a x _ _ _ (fP x) n e E _ w hO ho hpl hn ⟨e1,e2⟩ hq hA hE h.1 h.2 hY (by rw [hk2];exact hV) (fun W=>frombits5 _ W) (fun i w'=>?_) C1 C2 C3 hB
  have:=fmul_ok 4368491638549381120 (wrd s (q % 4503599627370496+k * 4503599627370496)) (by decide) (wrd_lt _ _ (by omega)) (mN_fin (by decide) (wrd_fin hv)) i w'
  rw [(mul_comm6 _ _).1,hZ] at this
  exact this
def lV (a:Nat) (n:Int):Nat:=if fK a = 4 then a else xV a n
theorem Ldexp_any (a:Nat) (n:Int) (w:World) (ha:a < 18446744073709551616) (hn:-5000≤n∧n≤5000) :
  Calls Tryz.prog 123 #[.float .f64 a,.int .i64 n] w fun r w'=>r = .returned (.float .f64 (lV a n))∧w = w':=by
 refine Ldexp_of a _ n w fun w'=>?_
 have C1:=fun w'=>isInf8_any a w' ha
 have C2:=fun w'=>isNaN8_any a w' ha
 unfold lV
 by_cases a4:fK a = 4
 ·rw [if_pos a4]
  rw [decide_eq_false (show ¬ fK a = 3 by omega)] at C1
  rw [decide_eq_true a4] at C2
  exact ldexp_odd a n false true _ w' (order_nan a 0 ha (by decide) (.inl a4)) (.inl rfl) (.inr ⟨rfl,rfl⟩) C1 C2
 rw [if_neg a4]
 unfold xV
 rw [if_neg a4]
 by_cases a3:fK a = 3
 ·rw [if_pos (Or.inl a3)]
  rw [decide_eq_true a3] at C1
  exact ldexp_odd a n true _ _ w' (order_0_sign a ha a4 (by omega)) (by cases fS a <;> simp) (.inl rfl) C1 C2
 by_cases a0:fK a = 0
 ·rw [if_pos (Or.inr a0)]
  have hz:fZ a = 0:=by
   have:=fZ_abs a
   rw [(fK_zero a).1 a0,rv_zero] at this
   omega
  exact ldexp_zero a n w' (by rw [show FloatKind.f64.format.order a 0 = Ieee.double.order a 0 from rfl,order_0 a ha a4,Int.compare_eq_eq.2 hz])
 ·rw [if_neg (by omega)]
  have fa:=fin_of a a3 a4
  obtain ⟨β,x1,x2,x3,x4⟩:=odd_mag a ha fa a0
  have e3:rnd (fD a).natAbs (fX a+n) = rnd (rv (fR a)) (n - 1074):=by
   rw [x2,rnd_scale];congr 1;omega
  rw [e3]
  exact ldexp_fin a n w' ha fa a0 hn
theorem canon_lV (a:Nat) (n:Int) (w:World) (ha:a < 18446744073709551616) :
  Calls Tryz.prog 129 #[.int .u64 (lV a n:Nat)] w fun r w'=>r = .returned (.int .u64 (xV a n:Nat))∧w = w':=by
 unfold lV
 by_cases a4:fK a = 4
 ·rw [if_pos a4]
  have:=canon_any a w ha
  rw [if_pos a4] at this
  rw [show xV a n = 9221120237041090560 by unfold xV;rw [if_pos a4]]
  exact this
 ·rw [if_neg a4]
  have:=canon_any (xV a n) w (xV_lt a n ha)
  have h:fK (xV a n) ≠ 4:=by
   unfold xV
   rw [if_neg a4]
   split
   ·exact a4
   ·exact wrd_kind _ _ (rnd_le _ _)
  rw [if_neg h] at this
  exact this
end Go.Proofs.YtlnphkioddknfaaGreatDoor
namespace Go.Proofs.YtlnphkioddknfaaGreatDoor
open Go.RowKit
def rest7 (N:Nat):Nat:=N - isq N * isq N
theorem next7 (N p:Nat) (hp:p < 4) :
  (4 * rest7 N+p < 4 * isq N+1→isq (4 * N+p) = 2 * isq N∧rest7 (4 * N+p) = 4 * rest7 N+p) ∧
  (¬ 4 * rest7 N+p < 4 * isq N+1→isq (4 * N+p) = 2 * isq N+1∧rest7 (4 * N+p) = 4 * rest7 N+p - (4 * isq N+1)):=by
 obtain ⟨g1,g2⟩:=isq_spec N
 have s1:=sq_succ (isq N)
 have s2:=sq_succ (2 * isq N)
 have s3:=sq_succ (2 * isq N+1)
 have q4:2 * isq N * (2 * isq N) = 4 * (isq N * isq N):=by rw [show (4:Nat) = 2 * 2 by decide];ac_rfl
 unfold rest7
 refine ⟨fun h=>?_,fun h=>?_⟩
 ·have e:isq (4 * N+p) = 2 * isq N:=isq_unique (by omega) (by omega)
  refine ⟨e,?_⟩
  rw [e]
  omega
 ·have e:isq (4 * N+p) = 2 * isq N+1:=isq_unique (by omega) (by omega)
  refine ⟨e,?_⟩
  rw [e]
  omega
theorem rest7_le (N:Nat):rest7 N≤2 * isq N:=by
 obtain ⟨g1,g2⟩:=isq_spec N
 have s1:=sq_succ (isq N)
 unfold rest7
 omega
theorem rest7_zero (N:Nat):rest7 N = 0 ↔ isq N * isq N = N:=by
 obtain ⟨g1,g2⟩:=isq_spec N
 unfold rest7
 omega
theorem isq_lt {N k:Nat} (h:N < k * k):isq N < k:=by
 obtain ⟨g1,g2⟩:=isq_spec N
 exact sq_lt_iff.1 (by omega)
def top7 (n i:Nat):Nat:=n / 4 ^ (32 - i)
theorem top7_zero (n:Nat) (h:n < 18446744073709551616):top7 n 0 = 0:=by
 unfold top7
 rw [show (4:Nat) ^ (32 - 0) = 18446744073709551616 by decide]
 omega
theorem top7_end (n:Nat):top7 n 32 = n:=by
 unfold top7
 simp
theorem top7_succ (n i:Nat) (hi:i < 32):top7 n (i+1) = 4 * top7 n i+n / 2 ^ (2 * (31 - i)) % 4:=by
 unfold top7
 have e:(4:Nat) ^ (32 - i) = 4 ^ (32 - (i+1)) * 4:=by rw [← Nat.pow_succ];congr 1;omega
 have e2:(2:Nat) ^ (2 * (31 - i)) = 4 ^ (32 - (i+1)):=by rw [Nat.pow_mul,show 32 - (i+1) = 31 - i by omega]
 rw [e,e2,← Nat.div_div_eq_div_mul]
 omega
theorem top7_lt (n i:Nat) (h:n < 18446744073709551616):top7 n i < 18446744073709551616:=by
 unfold top7
 exact Nat.lt_of_le_of_lt (Nat.div_le_self _ _) h
theorem isq_top7 (n i:Nat) (h:n < 18446744073709551616):isq (top7 n i) < 4294967296:=isq_lt (Nat.lt_of_lt_of_le (top7_lt n i h) (by decide))
theorem isq_low7 (n i:Nat) (h:n < 18446744073709551616) (hi:i≤22):isq (n * 4 ^ i) < 18014398509481984:=by
 refine isq_lt ?_
 have h1:(4:Nat) ^ i≤4 ^ 22:=Nat.pow_le_pow_right (by decide) hi
 rw [show (4:Nat) ^ 22 = 17592186044416 by decide] at h1
 have h2:n * 4 ^ i≤n * 17592186044416:=Nat.mul_le_mul_left _ h1
 omega
theorem low7_succ (n i:Nat):n * 4 ^ (i+1) = 4 * (n * 4 ^ i)+0:=by rw [Nat.pow_succ];ac_rfl
def nS (b:Nat):Nat:=(fD b).natAbs * 2 ^ (64 - bl (fD b).natAbs - ((dT b) % 2).toNat)
def nT (b:Nat):Int:=dT b+(dT b) % 2
theorem nS_facts (b:Nat) (hb:b < 18446744073709551616) (hf:fFin b = true) (h0:fK b ≠ 0) :
  nS b < 18446744073709551616∧4611686018427387904≤nS b:=by
 obtain ⟨x1,x2,x3,x4,x5,x6,x7,x8⟩:=dS_facts b hb hf h0
 obtain ⟨b1,b2,b3⟩:=bl_spec (fD b).natAbs (by omega)
 unfold nS
 have hp:=Nat.two_pow_pos (64 - bl (fD b).natAbs - ((dT b) % 2).toNat)
 have k1:=(Nat.mul_lt_mul_right hp).2 b3
 have k2:=Nat.mul_le_mul_right (2 ^ (64 - bl (fD b).natAbs - ((dT b) % 2).toNat)) b2
 rw [← Nat.pow_add] at k1 k2
 have k3:2 ^ (bl (fD b).natAbs+(64 - bl (fD b).natAbs - ((dT b) % 2).toNat))≤2 ^ 64:=Nat.pow_le_pow_right (by decide) (by omega)
 have k4:2 ^ 62≤2 ^ (bl (fD b).natAbs - 1+(64 - bl (fD b).natAbs - ((dT b) % 2).toNat)):=Nat.pow_le_pow_right (by decide) (by omega)
 rw [show (2:Nat) ^ 64 = 18446744073709551616 by decide] at k3
 rw [show (2:Nat) ^ 62 = 4611686018427387904 by decide] at k4
 exact ⟨Nat.lt_of_lt_of_le k1 k3,Nat.le_trans k4 k2⟩
theorem nS_root (a:Nat) (ha:a < 18446744073709551616) (fa:fFin a = true) (a0:fK a ≠ 0) :
  rnd (rS (nS a * 4 ^ 22)) (nT a / 2 - 55) = tV a∧rflag (oM (rS (nS a * 4 ^ 22):Nat)).natAbs (oE (rS (nS a * 4 ^ 22):Nat) (nT a / 2 - 55)) = tF a:=by
 obtain ⟨α,x1,x2,x3,x4⟩:=odd_mag a ha fa a0
 obtain ⟨y1,y2,y3,y4,y5,y6,y7,y8⟩:=dS_facts a ha fa a0
 obtain ⟨n1,n2⟩:=nS_facts a ha fa a0
 have hN:nS a * 4 ^ 22 = (fD a).natAbs * 2 ^ (64 - bl (fD a).natAbs - ((dT a) % 2).toNat+44):=by
  unfold nS
  rw [Nat.pow_add,Nat.mul_assoc]
 have hbig:9007199254740992≤isq (nS a * 4 ^ 22):=by
  refine big_sq ?_
  rw [show (2:Nat) ^ 106 = 4611686018427387904 * 4 ^ 22 by decide]
  exact Nat.mul_le_mul_right _ n2
 rw [hN] at hbig ⊢
 have hd:dT a = (bl (fD a).natAbs:Int)+fX a:=rfl
 have hn:nT a = dT a+dT a % 2:=rfl
 have:=root_any a (fD a).natAbs α (64 - bl (fD a).natAbs - ((dT a) % 2).toNat+44) (nT a / 2 - 54) a0 x2.symm (by omega) hbig
 rwa [show nT a / 2 - 54 - 1 = nT a / 2 - 55 by omega] at this
theorem rS_54 (n:Nat) (h:n < 18446744073709551616):rS (n * 4 ^ 22) < 36028797018963968:=by
 have:=isq_low7 n 22 h (by decide)
 unfold rS
 split <;> omega
end Go.Proofs.YtlnphkioddknfaaGreatDoor
namespace Go.Proofs.YtlnphkioddknfaaGreatDoor
open Go.RowKit
def BoxP (w:World) (b:Nat) (x y:Value):Prop:=w.heap[b]? = some (.cells #[x,y] 254 (0,0))
theorem BoxP.c0 {w:World} {b:Nat} {x y:Value} (h:BoxP w b x y):w.cell? ⟨b,0,none⟩ = some x:=by rw [cell_of_row w b 0 _ _ _ h];rfl
theorem BoxP.c1 {w:World} {b:Nat} {x y:Value} (h:BoxP w b x y):w.cell? ⟨b,1,none⟩ = some y:=by rw [cell_of_row w b 1 _ _ _ h];rfl
theorem BoxP.free {w:World} {b:Nat} {x y:Value} (h:BoxP w b x y) (j:Nat):w.frozen? ⟨b,j,none⟩ = false:=frozen_of_row w b j _ _ h
theorem BoxP.lt {w:World} {b:Nat} {x y:Value} (h:BoxP w b x y):b < w.heap.size:=(Array.getElem?_eq_some_iff.1 h).1
theorem BoxP.all {w w':World} {b:Nat} {x y:Value} (h:BoxP w b x y) (hb:Below w.heap.size w w'):BoxP w' b x y:=(hb.block b h.lt).trans h
theorem BoxP.new (w:World) (x y:Value):BoxP (w.alloc (.cells #[x,y] 254)) w.heap.size x y:=heap_alloc_new w _
theorem or_pair (s p:Nat) (hs:s < 144115188075855872) (hp:p < 4):bits BinOp.or IntKind.u64 ((s:Int) * 4) (p:Int) = ((4 * s+p:Nat):Int):=by
 have e:(s:Int) * 4 = ((s * 2 ^ 2:Nat):Int):=by omega
 rw [e,u64_or_nat (s * 2 ^ 2) p (by omega) (by omega),Nat.or_comm,or_above p s 2 (by omega)]
 congr 1
 omega
theorem or_one (x:Nat) (h:x < 144115188075855872):bits BinOp.or IntKind.u64 ((x:Int) * 2) 1 = ((2 * x+1:Nat):Int):=by
 have e:(x:Int) * 2 = ((x * 2 ^ 1:Nat):Int):=by omega
 rw [e]
 refine (u64_or_nat (x * 2 ^ 1) 1 (by omega) (by omega)).trans ?_
 rw [Nat.or_comm,or_above 1 x 1 (by omega)]
 congr 1
 omega
theorem BoxP.put {w:World} {b:Nat} {x y:Value} (h:BoxP w b x y) (u u':Value):BoxP ((w.setCell ⟨b,0,none⟩ u).setCell ⟨b,1,none⟩ u') b u u':=by
 have h1:=heap_setCell_same w b 0 _ _ u h
 have h2:=heap_setCell_same (w.setCell ⟨b,0,none⟩ u) b 1 _ _ u' h1
 unfold BoxP
 rw [h2]
 simp
theorem BoxP.oth {w:World} {b g:Nat} {x y:Value} (h:BoxP w b x y) (hne:b ≠ g) (u u':Value):BoxP ((w.setCell ⟨g,0,none⟩ u).setCell ⟨g,1,none⟩ u') b x y :=
 (Below.heap_setCell _ ⟨g,1,none⟩ u' b hne).trans ((Below.heap_setCell w ⟨g,0,none⟩ u b hne).trans h)
theorem below_putP {B g:Nat} {a w:World} (h:Below B a w) (hg:B≤g) (u u':Value):Below B a ((w.setCell ⟨g,0,none⟩ u).setCell ⟨g,1,none⟩ u'):=(h.setCell hg u).setCell hg u'
theorem pnext_n (r s p x y z:Nat) (w:World) (hr:r < 18014398509481984) (hs:s≤2 * r) (hc:(x:Int) < (y:Int))
  (o1:bits BinOp.or IntKind.u64 ((s:Int) * 4) (p:Int) = (x:Int)) (o2:bits BinOp.or IntKind.u64 ((r:Int) * 2 * 2) 1 = (y:Int)) (hz:(r:Int) * 2 = (z:Int)) :
  Calls Tryz.prog 289 #[.agg #[.int .u64 r,.int .u64 s],.int .u64 p] w fun e w'=>e = .returned (.agg #[.int .u64 (z:Nat),.int .u64 (x:Nat)])∧Below w.heap.size w w':=by
 have hc':=decide_eq_true hc
 have HZ:=hide hz
 clear hz
 go_enter Tryz.func289,Tryz.ntmps289
 go_wp2
 go_quiet (fail)
 go_wp2
 rw [uH HZ]
 refine bodyPost_ret (v:=.agg #[.int .u64 (z:Nat),.int .u64 (x:Nat)]) (by simp [results,Tryz.results289,go_sem]) rfl ⟨rfl,?_⟩
 exact (((below_drewN (((Below.refl _ _).alloc (Nat.le_refl _) _).alloc (by simp) _) _).setCell (by simp) _).setCell (by simp) _)
theorem pnext_m (r s p x y z d:Nat) (w:World) (hr:r < 18014398509481984) (hs:s≤2 * r) (hc:¬ (x:Int) < (y:Int)) (hd:(x:Int) - (y:Int) = (d:Int))
  (o1:bits BinOp.or IntKind.u64 ((s:Int) * 4) (p:Int) = (x:Int)) (o2:bits BinOp.or IntKind.u64 ((r:Int) * 2 * 2) 1 = (y:Int)) (o3:bits BinOp.or IntKind.u64 ((r:Int) * 2) 1 = (z:Int)) (hx:x < 18446744073709551616) :
  Calls Tryz.prog 289 #[.agg #[.int .u64 r,.int .u64 s],.int .u64 p] w fun e w'=>e = .returned (.agg #[.int .u64 (z:Nat),.int .u64 (d:Nat)])∧Below w.heap.size w w':=by
 have hc':=decide_eq_false hc
 have HD:=hide hd
 clear hd
 go_enter Tryz.func289,Tryz.ntmps289
 go_wp2
 go_quiet (fail)
 go_wp2
 rw [uH HD]
 refine bodyPost_ret (v:=.agg #[.int .u64 (z:Nat),.int .u64 (d:Nat)]) (by simp [results,Tryz.results289,go_sem]) rfl ⟨rfl,?_⟩
 exact (((below_drewN (((Below.refl _ _).alloc (Nat.le_refl _) _).alloc (by simp) _) _).setCell (by simp) _).setCell (by simp) _)
end Go.Proofs.YtlnphkioddknfaaGreatDoor
namespace Go.Proofs.YtlnphkioddknfaaGreatDoor
open Go.RowKit
theorem reckon_ways (n:Nat) (P R S:Nat→Nat) (w:World) (h0:R 0 = 0∧S 0 = 0)
  (C:∀ i,i < 32→∀ w',Calls Tryz.prog 289 #[.agg #[.int .u64 (R i:Nat),.int .u64 (S i:Nat)],.int .u64 (P i:Nat)] w' fun e w''=>e = .returned (.agg #[.int .u64 (R (i+1):Nat),.int .u64 (S (i+1):Nat)])∧Below w'.heap.size w' w'')
  (hP:∀ i,i < 32→bits .and .u64 ((n:Int) / 2 ^ (2 * (31 - i))) 3 = (P i:Int)) :
  Calls Tryz.prog 288 #[.int .u64 n] w fun e w'=>e = .returned (.agg #[.int .u64 (R 32:Nat),.int .u64 (S 32:Nat)])∧Below w.heap.size w w':=by
 have H0:=hide h0;have HC:=hide C;have HP:=hide hP
 clear h0 C hP
 go_enter Tryz.func288,Tryz.ntmps288
 go_wp2
 go_loopw [6] (fun i wr=>∃ k:Nat,k≤32∧i = .int .i64 k∧Hid (BoxP wr w.heap.size (.int .u64 0) (.int .u64 0))∧Hid (BoxP wr (w.heap.size+1) (.int .u64 (R k:Nat)) (.int .u64 (S k:Nat)))∧Hid (Below w.heap.size w wr)) (fun i _=>32 - (intOf i).toNat)
 case atStart =>
  have h:=uH H0
  refine ⟨0,by omega,rfl,hide ?_,hide ?_,hide (((Below.refl _ _).alloc (Nat.le_refl _) _).alloc (by simp) _)⟩
  ·exact (BoxP.new w (.int .u64 0) (.int .u64 0)).all ((Below.refl _ _).alloc (Nat.le_refl _) _)
  ·rw [h.1,h.2]
   have:=BoxP.new (w.alloc (.cells #[.int .u64 0,.int .u64 0] 254)) (.int .u64 0) (.int .u64 0)
   simpa using this
 case round =>
  obtain ⟨k,hk,rfl,hx,hy,hb⟩:=hrel
  by_cases hlt:k < 32
  ·have K1:=hide (uH HC k hlt)
   have hp:=uH HP k hlt
   have y0:=(uH hy).c0;have y1:=(uH hy).c1;have f0:=(uH hy).free 0;have f1:=(uH hy).free 1
   have b0:(0:Int)≤(k:Int):=by omega
   have b1:(k:Int) < 32:=by omega
   obtain ⟨d,hd⟩:∃ d:Nat,d = 2 * (31 - k):=⟨_,rfl⟩
   have e1:IntKind.i64.wrap (31 - (k:Int)) = ((31 - k:Nat):Int):=by rw [wrap_small _ (by omega)];omega
   have e2:IntKind.i64.wrap (2 * ((31 - k:Nat):Int)) = (d:Int):=by rw [wrap_small _ (by omega)];omega
   have d0:d≤63:=by omega
   rw [← hd] at hp
   have HD:=hide hd
   clear HC HP H0 hd
   generalize 31 - k = c at *
   generalize R k = r at *
   generalize S k = s at *
   generalize P k = p at *
   obtain ⟨r1,hr1⟩:∃ x,x = R (k+1):=⟨_,rfl⟩
   obtain ⟨s1,hs1⟩:∃ x,x = S (k+1):=⟨_,rfl⟩
   rw [← hr1,← hs1] at K1
   have NR:=hide hr1.symm;have NS:=hide hs1.symm
   clear hr1 hs1
   go_wp2_with fail
   have xd:BoxP wr.drew w.heap.size (.int .u64 0) (.int .u64 0):=uH hx
   have yd:BoxP wr.drew (w.heap.size+1) (.int .u64 (r:Nat)) (.int .u64 (s:Nat)):=uH hy
   have hbd:Below w.heap.size w wr.drew:=(uH hb).drew
   have XD:=hide xd;have YD:=hide yd;have BD:=hide hbd
   clear xd yd hbd
   go_region_with (go_at_call 289;refine (uH K1 _).mono ?_;rintro e w1 ⟨rfl,hb1⟩;have x1:=(uH YD).all hb1;have B1:=hide ((uH BD).trans (hb1.mono (uH BD).size));have X1:=hide ((uH XD).all hb1);clear hb1 y0 y1 f0 f1;have y0:=x1.c0;have y1:=x1.c1;have f0:=x1.free 0;have f1:=x1.free 1;have YB:=hide x1;clear x1)
   go_wp2
   go_roundw
   case rel =>
    refine ⟨k+1,by omega,by go_num,hide ?_,hide ?_,hide ?_⟩
    ·exact (uH X1).oth (by omega) _ _
    ·rw [uH NR,uH NS]
     exact (uH YB).put _ _
    ·exact below_putP (uH B1) (by omega) _ _
   case measure=>simp [intOf];omega
  ·have hk2:k = 32:=by omega
   subst hk2
   have y0:=(uH hy).c0;have y1:=(uH hy).c1
   have x0:=(uH hx).c0;have x1:=(uH hx).c1;have f0:=(uH hx).free 0;have f1:=(uH hx).free 1
   clear HC HP H0
   obtain ⟨r,hr⟩:∃ x,x = R 32:=⟨_,rfl⟩
   obtain ⟨s,hs⟩:∃ x,x = S 32:=⟨_,rfl⟩
   rw [← hr] at y0
   rw [← hs] at y1
   have HR:=hide hr;have HS:=hide hs
   clear hr hs
   go_wp2
   refine bodyPost_ret (v:=.agg #[.int .u64 (r:Nat),.int .u64 (s:Nat)]) ?_ rfl ⟨by rw [uH HR,uH HS],below_putP (uH hb) (Nat.le_refl _) _ _⟩
   have z:=(uH hx).put (.int .u64 (r:Nat)) (.int .u64 (s:Nat))
   have z0:=z.c0;have z1:=z.c1
   simp [results,Tryz.results288,go_sem,z0,z1]
theorem rootBehind_ways (n X:Nat) (R S:Nat→Nat) (w:World)
  (C1:∀ w',Calls Tryz.prog 288 #[.int .u64 n] w' fun e w''=>e = .returned (.agg #[.int .u64 (R 0:Nat),.int .u64 (S 0:Nat)])∧Below w'.heap.size w' w'')
  (C2:∀ i,i < 22→∀ w',Calls Tryz.prog 289 #[.agg #[.int .u64 (R i:Nat),.int .u64 (S i:Nat)],.int .u64 0] w' fun e w''=>e = .returned (.agg #[.int .u64 (R (i+1):Nat),.int .u64 (S (i+1):Nat)])∧Below w'.heap.size w' w'')
  (hR:R 22 < 18014398509481984) (hX:X = 2 * R 22+(if S 22 = 0 then 0 else 1)) :
  Calls Tryz.prog 283 #[.int .u64 n] w fun e w'=>e = .returned (.int .i64 (X:Nat))∧Below w.heap.size w w':=by
 have K1:=hide C1;have K2:=hide C2;have HX:=hide hX;have HR:=hide hR
 clear C1 C2 hX hR
 go_enter Tryz.func283,Tryz.ntmps283
 go_wp2_with fail
 refine (uH K1 _).mono ?_
 rintro e w1 ⟨rfl,hb1⟩
 have x:=hide (BoxP.new w1 (.int .u64 (R 0:Nat)) (.int .u64 (S 0:Nat)))
 have B1:=hide (hb1.trans (((Below.refl _ _).alloc (Nat.le_refl _) (.cells #[.int .u64 (R 0:Nat),.int .u64 (S 0:Nat)] 254)).mono hb1.size))
 have hg:=hb1.size
 clear K1 hb1
 go_wp2
 go_loopw [7] (fun i wr=>∃ k:Nat,k≤22∧i = .int .i64 k∧Hid (BoxP wr w1.heap.size (.int .u64 (R k:Nat)) (.int .u64 (S k:Nat)))∧Hid (Below w.heap.size w wr)) (fun i _=>22 - (intOf i).toNat)
 case atStart=>exact ⟨0,by omega,rfl,x,B1⟩
 case round =>
  obtain ⟨k,hk,rfl,hy,hb⟩:=hrel
  clear x B1
  by_cases hlt:k < 22
  ·have C:=hide (uH K2 k hlt)
   have y0:=(uH hy).c0;have y1:=(uH hy).c1
   have b0:(0:Int)≤(k:Int):=by omega
   have b1:(k:Int) < 22:=by omega
   obtain ⟨r1,hr1⟩:∃ x,x = R (k+1):=⟨_,rfl⟩
   obtain ⟨s1,hs1⟩:∃ x,x = S (k+1):=⟨_,rfl⟩
   rw [← hr1,← hs1] at C
   have NR:=hide hr1.symm;have NS:=hide hs1.symm
   clear K2 HX HR hr1 hs1
   generalize R k = r at *
   generalize S k = s at *
   go_wp2_with fail
   refine (uH C _).mono ?_
   rintro e w2 ⟨rfl,hb2⟩
   have x1:=(uH hy).all hb2
   have B2:=hide ((uH hb).trans (hb2.mono (uH hb).size))
   clear hb2 y0 y1 hy hb C
   have y0:=x1.c0;have y1:=x1.c1;have f0:=x1.free 0;have f1:=x1.free 1
   have YB:=hide x1
   clear x1
   go_wp2
   go_roundw
   case rel =>
    refine ⟨k+1,by omega,by go_num,hide ?_,hide (below_putP (uH B2) (by omega) _ _)⟩
    rw [uH NR,uH NS]
    exact (uH YB).put _ _
   case measure=>simp [intOf];omega
  ·have hk2:k = 22:=by omega
   subst hk2
   have y0:=(uH hy).c0;have y1:=(uH hy).c1
   have r0:=uH HR
   clear K2 HR
   generalize R 22 = r at *
   generalize S 22 = s at *
   by_cases c:0 < s
   ·have M:=hide (show X = 2 * r+1 by rw [uH HX,if_neg (by omega)])
    have c':(s:Int) > 0:=by omega
    clear HX
    go_wp2
    go_ret
    exact ⟨ret_int (by rw [uH M];omega),uH hb⟩
   ·have M:=hide (show X = 2 * r by rw [uH HX,if_pos (by omega)];rfl)
    have c':¬ (s:Int) > 0:=by omega
    clear HX
    go_wp2
    go_ret
    exact ⟨ret_int (by rw [uH M];omega),uH hb⟩
end Go.Proofs.YtlnphkioddknfaaGreatDoor
namespace Go.Proofs.YtlnphkioddknfaaGreatDoor
open Go.RowKit
theorem pnext_any (N p:Nat) (w:World) (hp:p < 4) (hN:isq N < 18014398509481984) :
  Calls Tryz.prog 289 #[.agg #[.int .u64 (isq N:Nat),.int .u64 (rest7 N:Nat)],.int .u64 (p:Nat)] w fun e w'=>e = .returned (.agg #[.int .u64 (isq (4 * N+p):Nat),.int .u64 (rest7 (4 * N+p):Nat)])∧Below w.heap.size w w':=by
 obtain ⟨h1,h2⟩:=next7 N p hp
 have hs:=rest7_le N
 have o1:=or_pair (rest7 N) p (by omega) hp
 have o2:=or_one (2 * isq N) (by omega)
 have o3:=or_one (isq N) (by omega)
 rw [show ((2 * isq N:Nat):Int) = (isq N:Int) * 2 by omega] at o2
 by_cases hc:4 * rest7 N+p < 4 * isq N+1
 ·rw [(h1 hc).1,(h1 hc).2]
  exact pnext_n (isq N) (rest7 N) p (4 * rest7 N+p) (2 * (2 * isq N)+1) (2 * isq N) w hN hs (by omega) o1 o2 (by omega)
 ·rw [(h2 hc).1,(h2 hc).2]
  exact pnext_m (isq N) (rest7 N) p (4 * rest7 N+p) (2 * (2 * isq N)+1) (2 * isq N+1) (4 * rest7 N+p - (4 * isq N+1)) w hN hs (by omega) (by omega) o1 o2 o3 (by omega)
theorem and_three (x:Nat) (h:x < 18446744073709551616):bits .and .u64 (x:Int) 3 = ((x % 4:Nat):Int):=by
 have h1:=bits_and_u64_nat x 3 h (by decide)
 refine h1.trans ?_
 have:x &&& 3 = x % 4:=by
  have:=Nat.and_two_pow_sub_one_eq_mod x 2
  simpa using this
 rw [this]
theorem reckon_any (n:Nat) (w:World) (hn:n < 18446744073709551616) :
  Calls Tryz.prog 288 #[.int .u64 n] w fun e w'=>e = .returned (.agg #[.int .u64 (isq n:Nat),.int .u64 (rest7 n:Nat)])∧Below w.heap.size w w':=by
 have h:=reckon_ways n (fun i=>n / 2 ^ (2 * (31 - i)) % 4) (fun i=>isq (top7 n i)) (fun i=>rest7 (top7 n i)) w ?_ ?_ ?_
 ·rw [top7_end] at h
  exact h
 ·rw [top7_zero n hn]
  exact ⟨rfl,rfl⟩
 ·intro i hi w'
  have:=pnext_any (top7 n i) (n / 2 ^ (2 * (31 - i)) % 4) w' (by omega) (by have:=isq_top7 n i hn;omega)
  rw [← top7_succ n i hi] at this
  exact this
 ·intro i hi
  have e:(n:Int) / 2 ^ (2 * (31 - i)) = ((n / 2 ^ (2 * (31 - i)):Nat):Int):=by simp
  rw [e]
  exact and_three _ (Nat.lt_of_le_of_lt (Nat.div_le_self _ _) hn)
theorem rootBehind_any (n:Nat) (w:World) (hn:n < 18446744073709551616) :
  Calls Tryz.prog 283 #[.int .u64 n] w fun e w'=>e = .returned (.int .i64 (rS (n * 4 ^ 22):Nat))∧Below w.heap.size w w':=by
 refine rootBehind_ways n _ (fun i=>isq (n * 4 ^ i)) (fun i=>rest7 (n * 4 ^ i)) w ?_ ?_ (isq_low7 n 22 hn (by decide)) ?_
 ·intro w'
  have:=reckon_any n w' hn
  show Calls Tryz.prog 288 #[.int .u64 n] w' fun e w''=>e = .returned (.agg #[.int .u64 (isq (n * 4 ^ 0):Nat),.int .u64 (rest7 (n * 4 ^ 0):Nat)])∧Below w'.heap.size w' w''
  rw [Nat.pow_zero,Nat.mul_one]
  exact this
 ·intro i hi w'
  have:=pnext_any (n * 4 ^ i) 0 w' (by decide) (isq_low7 n i hn (by omega))
  rw [← low7_succ] at this
  exact this
 ·unfold rS
  have:=rest7_zero (n * 4 ^ 22)
  by_cases h:isq (n * 4 ^ 22) * isq (n * 4 ^ 22) = n * 4 ^ 22
  ·rw [if_pos h,if_pos (this.2 h)]
  ·rw [if_neg h,if_neg (fun e=>h (this.1 e))]
end Go.Proofs.YtlnphkioddknfaaGreatDoor
