/- Part 23 of the texts. -/
import Derived.Test.YtnnfjeieennffaaGreatDoorParte22
import Derived.Test.YtnnfjeieennffaaGreatDoorParte19
set_option maxHeartbeats 4000000
set_option maxRecDepth 20000
namespace Go.Proofs.YtnnfjeieennffaaGreatDoor
open Go.RowKit
theorem ldexp_low (a x z p:Nat) (n e E:Int) (o:Option Ordering) (w:World) (hO:FloatKind.f64.format.order a 0 = o) (ho:o = some .lt ∨ o = some .gt)
  (hp:p < 2048) (hn:-5000≤n∧n≤5000) (he:-52≤e∧e≤0) (hq:(x:Int) / 4503599627370496 < 4096) (hA:bits .and .i64 ((x:Int) / 4503599627370496) 2047 = (p:Int)) (hE:n+e+((p:Int) - 1023) = E) (g1:E < -1075)
  (C1:∀ w',Calls Tryz.prog 159 #[.float .f64 a,.int .i64 0] w' fun r w''=>r = .returned (.bool false)∧w' = w'')
  (C2:∀ w',Calls Tryz.prog 160 #[.float .f64 a] w' fun r w''=>r = .returned (.bool false)∧w' = w'')
  (C3:∀ w',Calls Tryz.prog 161 #[.float .f64 a] w' fun r w''=>r = .returned (.tuple #[.float .f64 x,.int .i64 e])∧w' = w'')
  (C4:∀ w',Calls Tryz.prog 162 #[.float .f64 0,.float .f64 x] w' fun r w''=>r = .returned (.float .f64 z)∧w' = w'')
  (hB:∀ W,(callFunc 64 #[.float .f64 x]).run Tryz.prog W = .ok (.value (.int .u64 x)) W) :
  Calls Tryz.prog 135 #[.float .f64 a,.int .i64 n] w fun r w'=>r = .returned (.float .f64 z)∧w = w':=by
 have K1:=hide C1;have K2:=hide C2;have K3:=hide C3;have K4:=hide C4
 clear C1 C2 C3 C4
 have d1:decide (E < -1075) = true:=decide_eq_true g1
 rcases ho with rfl | rfl
 all_goals
  go_enter Tryz.func135,Tryz.ntmps135
  go_wp2_with fail
  refine (uH K1 _).mono ?_
  rintro e w1 ⟨rfl,rfl⟩
  go_wp2_with fail
  refine (uH K2 _).mono ?_
  rintro e w1 ⟨rfl,rfl⟩
  go_wp2_with fail
  refine (uH K3 _).mono ?_
  rintro e w1 ⟨rfl,rfl⟩
  clear K1 K2 K3
  go_wp2_with fail
  refine (uH K4 _).mono ?_
  rintro e w1 ⟨rfl,rfl⟩
  clear K4
  go_wp2
  go_ret
  exact ⟨rfl,rfl⟩
theorem ldexp_high (a x z p:Nat) (n e E:Int) (o o2:Option Ordering) (w:World) (hO:FloatKind.f64.format.order a 0 = o) (ho:o = some .lt ∨ o = some .gt) (hO2:FloatKind.f64.format.order x 0 = o2)
  (hz:(o2 = some .lt∧z = 18442240474082181120) ∨ (o2 = some .gt∧z = 9218868437227405312))
  (hp:p < 2048) (hn:-5000≤n∧n≤5000) (he:-52≤e∧e≤0) (hq:(x:Int) / 4503599627370496 < 4096) (hA:bits .and .i64 ((x:Int) / 4503599627370496) 2047 = (p:Int)) (hE:n+e+((p:Int) - 1023) = E) (g1:1023 < E)
  (C1:∀ w',Calls Tryz.prog 159 #[.float .f64 a,.int .i64 0] w' fun r w''=>r = .returned (.bool false)∧w' = w'')
  (C2:∀ w',Calls Tryz.prog 160 #[.float .f64 a] w' fun r w''=>r = .returned (.bool false)∧w' = w'')
  (C3:∀ w',Calls Tryz.prog 161 #[.float .f64 a] w' fun r w''=>r = .returned (.tuple #[.float .f64 x,.int .i64 e])∧w' = w'')
  (hB:∀ W,(callFunc 64 #[.float .f64 x]).run Tryz.prog W = .ok (.value (.int .u64 x)) W) :
  Calls Tryz.prog 135 #[.float .f64 a,.int .i64 n] w fun r w'=>r = .returned (.float .f64 z)∧w = w':=by
 have K1:=hide C1;have K2:=hide C2;have K3:=hide C3
 have K4:=hide (fun w'=>inf8_any 1 9218868437227405312 w' (by decide))
 have K5:=hide (fun w'=>inf8_any (-1) 18442240474082181120 w' (by decide))
 clear C1 C2 C3
 have d1:decide (E < -1075) = false:=decide_eq_false (by omega)
 have d2:decide (1023 < E) = true:=decide_eq_true g1
 have hE0:-1075≤E:=by omega
 rcases hz with ⟨rfl,rfl⟩ | ⟨rfl,rfl⟩ <;> rcases ho with rfl | rfl
 all_goals
  go_enter Tryz.func135,Tryz.ntmps135
  go_wp2_with fail
  refine (uH K1 _).mono ?_
  rintro e w1 ⟨rfl,rfl⟩
  go_wp2_with fail
  refine (uH K2 _).mono ?_
  rintro e w1 ⟨rfl,rfl⟩
  go_wp2_with fail
  refine (uH K3 _).mono ?_
  rintro e w1 ⟨rfl,rfl⟩
  clear K1 K2 K3
  go_wp2_with fail
  first | refine (uH K4 _).mono ?_ | refine (uH K5 _).mono ?_
  rintro e w1 ⟨rfl,rfl⟩
  clear K4 K5
  go_wp2
  go_ret
  exact ⟨rfl,rfl⟩
theorem ldexp_mid (a x y v r p:Nat) (n e E:Int) (o:Option Ordering) (w:World) (hO:FloatKind.f64.format.order a 0 = o) (ho:o = some .lt ∨ o = some .gt)
  (hp:p < 2048) (hn:-5000≤n∧n≤5000) (he:-52≤e∧e≤0) (hq:(x:Int) / 4503599627370496 < 4096) (hA:bits .and .i64 ((x:Int) / 4503599627370496) 2047 = (p:Int)) (hE:n+e+((p:Int) - 1023) = E) (g1:-1022≤E) (g2:E≤1023)
  (hY:bits .andNot .u64 (x:Int) 9218868437227405312 = (y:Int)) (hV:bits .or .u64 (y:Int) ((E+1023) * 4503599627370496) = (v:Int))
  (hF:∀ W,(callFunc 136 #[.int .u64 v]).run Tryz.prog W = .ok (.value (.float .f64 v)) W)
  (hM:∀ i w',(binOp .mul i (.float .f64 4607182418800017408) (.float .f64 v)).run Tryz.prog w' = .ok (.float .f64 r) w')
  (C1:∀ w',Calls Tryz.prog 159 #[.float .f64 a,.int .i64 0] w' fun r w''=>r = .returned (.bool false)∧w' = w'')
  (C2:∀ w',Calls Tryz.prog 160 #[.float .f64 a] w' fun r w''=>r = .returned (.bool false)∧w' = w'')
  (C3:∀ w',Calls Tryz.prog 161 #[.float .f64 a] w' fun r w''=>r = .returned (.tuple #[.float .f64 x,.int .i64 e])∧w' = w'')
  (hB:∀ W,(callFunc 64 #[.float .f64 x]).run Tryz.prog W = .ok (.value (.int .u64 x)) W) :
  Calls Tryz.prog 135 #[.float .f64 a,.int .i64 n] w fun s w'=>s = .returned (.float .f64 r)∧w = w':=by
 have K1:=hide C1;have K2:=hide C2;have K3:=hide C3
 clear C1 C2 C3
 have d1:decide (E < -1075) = false:=decide_eq_false (by omega)
 have d2:decide (1023 < E) = false:=decide_eq_false (by omega)
 have d3:decide (E < -1022) = false:=decide_eq_false (by omega)
 rcases ho with rfl | rfl
 all_goals
  go_enter Tryz.func135,Tryz.ntmps135
  go_wp2_with fail
  refine (uH K1 _).mono ?_
  rintro e w1 ⟨rfl,rfl⟩
  go_wp2_with fail
  refine (uH K2 _).mono ?_
  rintro e w1 ⟨rfl,rfl⟩
  go_wp2_with fail
  refine (uH K3 _).mono ?_
  rintro e w1 ⟨rfl,rfl⟩
  clear K1 K2 K3
  go_wp2
  go_ret
  exact ⟨rfl,rfl⟩
theorem ldexp_sub (a x y v r p:Nat) (n e E:Int) (o:Option Ordering) (w:World) (hO:FloatKind.f64.format.order a 0 = o) (ho:o = some .lt ∨ o = some .gt)
  (hp:p < 2048) (hn:-5000≤n∧n≤5000) (he:-52≤e∧e≤0) (hq:(x:Int) / 4503599627370496 < 4096) (hA:bits .and .i64 ((x:Int) / 4503599627370496) 2047 = (p:Int)) (hE:n+e+((p:Int) - 1023) = E) (g1:-1075≤E) (g2:E < -1022)
  (hY:bits .andNot .u64 (x:Int) 9218868437227405312 = (y:Int)) (hV:bits .or .u64 (y:Int) ((E+53+1023) * 4503599627370496) = (v:Int))
  (hF:∀ W,(callFunc 136 #[.int .u64 v]).run Tryz.prog W = .ok (.value (.float .f64 v)) W)
  (hM:∀ i w',(binOp .mul i (.float .f64 4368491638549381120) (.float .f64 v)).run Tryz.prog w' = .ok (.float .f64 r) w')
  (C1:∀ w',Calls Tryz.prog 159 #[.float .f64 a,.int .i64 0] w' fun r w''=>r = .returned (.bool false)∧w' = w'')
  (C2:∀ w',Calls Tryz.prog 160 #[.float .f64 a] w' fun r w''=>r = .returned (.bool false)∧w' = w'')
  (C3:∀ w',Calls Tryz.prog 161 #[.float .f64 a] w' fun r w''=>r = .returned (.tuple #[.float .f64 x,.int .i64 e])∧w' = w'')
  (hB:∀ W,(callFunc 64 #[.float .f64 x]).run Tryz.prog W = .ok (.value (.int .u64 x)) W) :
  Calls Tryz.prog 135 #[.float .f64 a,.int .i64 n] w fun s w'=>s = .returned (.float .f64 r)∧w = w':=by
 have K1:=hide C1;have K2:=hide C2;have K3:=hide C3
 clear C1 C2 C3
 have d1:decide (E < -1075) = false:=decide_eq_false (by omega)
 have d2:decide (1023 < E) = false:=decide_eq_false (by omega)
 have d3:decide (E < -1022) = true:=decide_eq_true (by omega)
 rcases ho with rfl | rfl
 all_goals
  go_enter Tryz.func135,Tryz.ntmps135
  go_wp2_with fail
  refine (uH K1 _).mono ?_
  rintro e w1 ⟨rfl,rfl⟩
  go_wp2_with fail
  refine (uH K2 _).mono ?_
  rintro e w1 ⟨rfl,rfl⟩
  go_wp2_with fail
  refine (uH K3 _).mono ?_
  rintro e w1 ⟨rfl,rfl⟩
  clear K1 K2 K3
  go_wp2
  go_ret
  exact ⟨rfl,rfl⟩
theorem ldexp_zero (a:Nat) (n:Int) (w:World) (hO:FloatKind.f64.format.order a 0 = some .eq) :
  Calls Tryz.prog 135 #[.float .f64 a,.int .i64 n] w fun s w'=>s = .returned (.float .f64 a)∧w = w':=by
 go_enter Tryz.func135,Tryz.ntmps135
 go_wp2
 go_ret
 exact ⟨rfl,rfl⟩
theorem ldexp_odd (a:Nat) (n:Int) (i k:Bool) (o:Option Ordering) (w:World) (hO:FloatKind.f64.format.order a 0 = o) (ho:o = none ∨ o = some .lt ∨ o = some .gt) (hw:(i = true) ∨ (i = false∧k = true))
  (C1:∀ w',Calls Tryz.prog 159 #[.float .f64 a,.int .i64 0] w' fun r w''=>r = .returned (.bool i)∧w' = w'')
  (C2:∀ w',Calls Tryz.prog 160 #[.float .f64 a] w' fun r w''=>r = .returned (.bool k)∧w' = w'') :
  Calls Tryz.prog 135 #[.float .f64 a,.int .i64 n] w fun s w'=>s = .returned (.float .f64 a)∧w = w':=by
 have K1:=hide C1;have K2:=hide C2
 clear C1 C2
 rcases hw with rfl | ⟨rfl,rfl⟩
 ·rcases ho with rfl | rfl | rfl
  all_goals
   go_enter Tryz.func135,Tryz.ntmps135
   go_wp2_with fail
   refine (uH K1 _).mono ?_
   rintro e w1 ⟨rfl,rfl⟩
   go_wp2
   go_ret
   exact ⟨rfl,rfl⟩
 ·rcases ho with rfl | rfl | rfl
  all_goals
   go_enter Tryz.func135,Tryz.ntmps135
   go_wp2_with fail
   refine (uH K1 _).mono ?_
   rintro e w1 ⟨rfl,rfl⟩
   go_wp2_with fail
   refine (uH K2 _).mono ?_
   rintro e w1 ⟨rfl,rfl⟩
   go_wp2
   go_ret
   exact ⟨rfl,rfl⟩
theorem Ldexp_of (a r:Nat) (n:Int) (w:World)
  (C1:∀ w',Calls Tryz.prog 135 #[.float .f64 a,.int .i64 n] w' fun s w''=>s = .returned (.float .f64 r)∧w' = w'') :
  Calls Tryz.prog 92 #[.float .f64 a,.int .i64 n] w fun s w'=>s = .returned (.float .f64 r)∧w = w':=by
 have K1:=hide C1
 clear C1
 go_enter Tryz.func92,Tryz.ntmps92
 go_wp2_with fail
 refine (uH K1 _).mono ?_
 rintro e w1 ⟨rfl,rfl⟩
 clear K1
 go_wp2
 go_ret
 exact ⟨rfl,rfl⟩
end Go.Proofs.YtnnfjeieennffaaGreatDoor
namespace Go.Proofs.YtnnfjeieennffaaGreatDoor
open Go.RowKit
theorem fmul_ok (x y:Nat) (hx:x < 18446744073709551616) (hy:y < 18446744073709551616) (h:mN x y = false) (i:TypeId) (w:World) :
  (binOp .mul i (.float .f64 x) (.float .f64 y)).run Tryz.prog w = .ok (.float .f64 (mV x y)) w:=by
 have:=fmul_run i x y w
 rw [fmul_some x y hx hy h] at this
 exact this
theorem mN_fin {x y:Nat} (fx:fFin x = true) (fy:fFin y = true):mN x y = false:=by
 obtain ⟨a3,a4⟩:=fin_kind fx
 obtain ⟨b3,b4⟩:=fin_kind fy
 unfold mN
 exact decide_eq_false (by omega)
theorem rv_one:rv 4607182418800017408 = 2 ^ 1074:=by
 have:=gM_rv 4607182418800017408 (by decide)
 rw [this,show gM 4607182418800017408 = 2 ^ 52 by decide,show 4607182418800017408 / 4503599627370496 - 1 = 1022 by decide]
 exact pow_join 52 1022 1074 (by decide)
theorem wrd_fin {s:Bool} {v:Nat} (h:v < 9218868437227405312):fFin (wrd s v) = true:=(fK_rungs _).2.2.2 (by rw [fR_wrd s v (by omega)];exact h)
theorem wrd_ne0 {s:Bool} {v:Nat} (h:v < 9218868437227405312) (h0:v ≠ 0):fK (wrd s v) ≠ 0:=fun e=>h0 (by have:=(fK_zero _).1 e;rwa [fR_wrd s v (by omega)] at this)
theorem mul_one8 (s:Bool) (v:Nat) (h:v < 9218868437227405312) (h0:v ≠ 0):mV 4607182418800017408 (wrd s v) = wrd s v:=by
 have f2:fFin 4607182418800017408 = true:=by decide
 have k2:fK 4607182418800017408 ≠ 0:=by decide
 have s2:fS 4607182418800017408 = false:=by decide
 have r2:fR 4607182418800017408 = 4607182418800017408:=by decide
 obtain ⟨K,hK⟩:∃ K:Nat,K = 1074:=⟨_,rfl⟩
 have r3:=rv_one
 rw [← hK] at r3
 have hr:=rnd_rv (wrd s v) (wrd_lt s v (by omega)) (wrd_fin h)
 rw [fR_wrd s v (by omega)] at hr
 rw [(mV_fin _ _ f2 (wrd_fin h) k2 (wrd_ne0 h h0)).1,s2,r2,r3,fR_wrd s v (by omega),fS_wrd s v (by omega),Bool.false_xor,Nat.mul_comm,rnd_scale1 _ _ _ (-1074) (by omega),hr]
theorem order_mag (r c:Nat) (hr:r≤9218868437227405312) (hc:c≤9218868437227405312):Ieee.double.order r c = some (compare (rv r:Int) (rv c:Int)):=by
 have:=order_wrd false false r c hr hc
 rw [wrd_false,wrd_false] at this
 exact this
theorem order_mag_lt {r c:Nat} (hc:c≤9218868437227405312) (h:r < c):Ieee.double.order r c = some .lt:=by
 rw [order_mag r c (by omega) hc,Int.compare_eq_lt.2 (by have:=rv8_lt h;omega)]
theorem order_mag_gt {r c:Nat} (hr:r≤9218868437227405312) (h:c < r):Ieee.double.order r c = some .gt:=by
 rw [order_mag r c hr (by omega),Int.compare_eq_gt.2 (by have:=rv8_lt h;omega)]
theorem order_mag_eq (r:Nat) (hr:r≤9218868437227405312):Ieee.double.order r r = some .eq:=by
 rw [order_mag r r hr hr,Int.compare_eq_eq.2 rfl]
theorem fZ_0:fZ 0 = 0:=by decide
theorem order_0 (a:Nat) (ha:a < 18446744073709551616) (n4:fK a ≠ 4):Ieee.double.order a 0 = some (compare (fZ a) 0):=by
 have:=order_bits a 0 ha (by decide) n4 (by decide)
 rwa [fZ_0] at this
theorem order_0_sign (a:Nat) (ha:a < 18446744073709551616) (n4:fK a ≠ 4) (n0:fK a ≠ 0):Ieee.double.order a 0 = if fS a = true then some .lt else some .gt:=by
 obtain ⟨h1,h2⟩:=fZ_neg8 a n0
 rw [order_0 a ha n4,← h2]
 by_cases h:fZ a < 0
 ·rw [decide_eq_true h,if_pos rfl,Int.compare_eq_lt.2 h]
 ·rw [decide_eq_false h,if_neg (by decide),Int.compare_eq_gt.2 (by omega)]
theorem isInf8_any (a:Nat) (w:World) (ha:a < 18446744073709551616) :
  Calls Tryz.prog 159 #[.float .f64 a,.int .i64 0] w fun r w'=>r = .returned (.bool (decide (fK a = 3)))∧w = w':=by
 obtain ⟨r1,r2,r3⟩:=fK_rungs a
 have hl:=fR_lt a
 have C1:=fun w'=>mabs_any a w' ha
 by_cases h4:fK a = 4
 ·rw [decide_eq_false (by omega)]
  have e:fK (fR a) = 4:=by rw [← h4];exact fK_same (by unfold fR;omega)
  exact isInf_of a (fR a) none false w (order_nan _ _ (by omega) (by decide) (.inl e)) (.inl ⟨rfl,rfl⟩) C1
 ·have h5:fR a≤9218868437227405312:=Nat.le_of_not_lt fun h=>h4 (r1.2 h)
  by_cases h3:fK a = 3
  ·rw [decide_eq_true h3]
   exact isInf_of a (fR a) _ true w (order_mag_gt h5 (by have:=r2.1 h3;omega)) (.inr (.inr (.inr ⟨rfl,rfl⟩))) C1
  ·rw [decide_eq_false h3]
   have h6:fR a ≠ 9218868437227405312:=fun h=>h3 (r2.2 h)
   by_cases h7:fR a = 9218868437227405311
   ·rw [h7] at C1
    exact isInf_of a _ _ false w (order_mag_eq _ (by decide)) (.inr (.inr (.inl ⟨rfl,rfl⟩))) C1
   ·exact isInf_of a (fR a) _ false w (order_mag_lt (by decide) (by omega)) (.inr (.inl ⟨rfl,rfl⟩)) C1
theorem isNaN8_any (a:Nat) (w:World) (ha:a < 18446744073709551616) :
  Calls Tryz.prog 160 #[.float .f64 a] w fun r w'=>r = .returned (.bool (decide (fK a = 4)))∧w = w':=by
 by_cases h4:fK a = 4
 ·rw [decide_eq_true h4]
  exact isNaN_of a _ _ w (order_nan a a ha ha (.inl h4)) (.inl ⟨rfl,rfl⟩)
 ·rw [decide_eq_false h4]
  exact isNaN_of a _ _ w (by rw [show FloatKind.f64.format.order a a = Ieee.double.order a a from rfl,order_bits a a ha ha h4 h4,Int.compare_eq_eq.2 rfl]) (.inr ⟨rfl,rfl⟩)
theorem norm8_any (a:Nat) (ha:a < 18446744073709551616) (fa:fFin a = true) (a0:fK a ≠ 0) :
  ∃ (q:Nat) (e:Int),(∀ w,Calls Tryz.prog 161 #[.float .f64 a] w fun s w'=>s = .returned (.tuple #[.float .f64 (wrd (fS a) q),.int .i64 e])∧w = w') ∧
   -52≤e∧e≤0∧4503599627370496≤q∧q < 9218868437227405312∧∀ n:Int,rnd (rv (fR a)) (n - 1074) = rnd (rv q) (n+e - 1074):=by
 have hr:=fR_fin a fa
 have C1:=fun w'=>mabs_any a w' ha
 by_cases h:fR a < 4503599627370496
 ·have h0:fR a ≠ 0:=fun e=>a0 ((fK_zero a).2 e)
  obtain ⟨q,q1,q2,q3,q4⟩:=scale_up52 (fS a) (fR a) h0 h
  rw [b_wrd a ha] at q1
  refine ⟨q,-52,fun w=>?_,by decide,by decide,q2,q3,fun n=>by rw [q4];congr 1⟩
  refine normalize_of a (fR a) (wrd (fS a) q) (-52) _ w (order_mag_lt (by decide) h) (.inl ⟨rfl,rfl,fun i w'=>?_⟩) C1
  rw [← q1]
  exact fmul_ok a _ ha (by decide) (mN_fin fa (by decide)) i w'
 ·refine ⟨fR a,0,fun w=>?_,by decide,by decide,by omega,hr,fun n=>by congr 1;omega⟩
  rw [b_wrd a ha]
  by_cases h7:fR a = 4503599627370496
  ·rw [h7] at C1
   exact normalize_of a _ a 0 _ w (order_mag_eq _ (by decide)) (.inr (.inl ⟨rfl,rfl,rfl⟩)) C1
  ·exact normalize_of a (fR a) a 0 _ w (order_mag_gt (by omega) (by omega)) (.inr (.inr ⟨rfl,rfl,rfl⟩)) C1
theorem ldexp_fin (a:Nat) (n:Int) (w:World) (ha:a < 18446744073709551616) (fa:fFin a = true) (a0:fK a ≠ 0) (hn:-5000≤n∧n≤5000) :
  Calls Tryz.prog 135 #[.float .f64 a,.int .i64 n] w fun r w'=>r = .returned (.float .f64 (wrd (fS a) (rnd (rv (fR a)) (n - 1074))))∧w = w':=by
 obtain ⟨q,e,C3,e1,e2,q1,q2,hN⟩:=norm8_any a ha fa a0
 obtain ⟨a3,a4⟩:=fin_kind fa
 have C1:=fun w'=>isInf8_any a w' ha
 rw [decide_eq_false a3] at C1
 have C2:=fun w'=>isNaN8_any a w' ha
 rw [decide_eq_false a4] at C2
 rw [hN n]
 obtain ⟨s,hs⟩:∃ s,s = fS a:=⟨_,rfl⟩
 have hO:FloatKind.f64.format.order a 0 = (if s = true then some .lt else some .gt):=by rw [hs];exact order_0_sign a ha a4 a0
 have ho:(if s = true then some Ordering.lt else some Ordering.gt) = some .lt ∨ (if s = true then some Ordering.lt else some Ordering.gt) = some .gt:=by cases s <;> simp
 rw [← hs] at C3 ⊢
 obtain ⟨x,hx⟩:∃ x,x = wrd s q:=⟨_,rfl⟩
 have hxl:x < 18446744073709551616:=by rw [hx];exact wrd_lt s q (by omega)
 have xR:fR x = q:=by rw [hx];exact fR_wrd s q (by omega)
 have xS:fS x = s:=by rw [hx];exact fS_wrd s q (by omega)
 have xf:fFin x = true:=by rw [hx];exact wrd_fin q2
 have x0:fK x ≠ 0:=by rw [hx];exact wrd_ne0 q2 (by omega)
 have x4:=(fin_kind xf).2
 rw [← hx] at C3
 have hp:fP x = q / 4503599627370496:=by rw [← xR];rfl
 have hA:bits .and .i64 ((x:Int) / 4503599627370496) 2047 = ((fP x:Nat):Int):=by
  have:=and_2047 (x / 4503599627370496) (by omega)
  rw [show ((x:Int) / 4503599627370496) = ((x / 4503599627370496:Nat):Int) by omega]
  refine this.trans ?_
  unfold fP
  congr 1
  omega
 have hB:=fun W=>tobits5 x W
 obtain ⟨E,hE⟩:∃ E:Int,n+e+((fP x:Int) - 1023) = E:=⟨_,rfl⟩
 have hpl:=fP_lt x
 have hS:=scale_normal q (n+e) E q1 (by rw [← hE,hp];omega)
 rw [hS]
 have hq:(x:Int) / 4503599627370496 < 4096:=by omega
 have hqm:q % 4503599627370496 < 4503599627370496:=Nat.mod_lt _ (by decide)
 rcases (show E < -1075 ∨ 1023 < E ∨ (-1022≤E∧E≤1023) ∨ (-1075≤E∧E < -1022) by omega) with h | h | h | h
 ·rw [scale_low q E h]
  have C4:=fun w'=>copysign0_any x w' hxl
  rw [xS] at C4
  exact ldexp_low a x (wrd s 0) (fP x) n e E _ w hO ho hpl hn ⟨e1,e2⟩ hq hA hE h C1 C2 C3 C4 hB
 ·rw [scale_high q E h]
  have hO2:FloatKind.f64.format.order x 0 = (if s = true then some .lt else some .gt):=by rw [← xS];exact order_0_sign x hxl x4 x0
  refine ldexp_high a x (wrd s 9218868437227405312) (fP x) n e E _ _ w hO ho hO2 ?_ hpl hn ⟨e1,e2⟩ hq hA hE h C1 C2 C3 hB
  cases s
  ·exact .inr ⟨rfl,rfl⟩
  ·exact .inl ⟨rfl,rfl⟩
 ·rw [scale_mid q E h.1 h.2]
  obtain ⟨k,hk⟩:∃ k:Nat,k = (E+1023).toNat:=⟨_,rfl⟩
  have hk2:(E+1023) * 4503599627370496 = ((k * 4503599627370496:Nat):Int):=by omega
  rw [← hk]
  have hV:=or_mid s (q % 4503599627370496) k hqm (by omega)
  have hv:q % 4503599627370496+k * 4503599627370496 < 9218868437227405312:=by omega
  have hv0:q % 4503599627370496+k * 4503599627370496 ≠ 0:=by omega
  have hY:=andNot_mid s q (by omega)
  rw [← hx] at hY
  refine ldexp_mid a x _ _ _ (fP x) n e E _ w hO ho hpl hn ⟨e1,e2⟩ hq hA hE h.1 h.2 hY (by rw [hk2];exact hV) (fun W=>frombits5 _ W) (fun i w'=>?_) C1 C2 C3 hB
  have:=fmul_ok 4607182418800017408 (wrd s (q % 4503599627370496+k * 4503599627370496)) (by decide) (wrd_lt _ _ (by omega)) (mN_fin (by decide) (wrd_fin hv)) i w'
  rw [mul_one8 s _ hv hv0] at this
  exact this
 ·obtain ⟨k,hk⟩:∃ k:Nat,k = (E+53+1023).toNat:=⟨_,rfl⟩
  have hk2:(E+53+1023) * 4503599627370496 = ((k * 4503599627370496:Nat):Int):=by omega
  have hZ:=scale_sub s q E h.1 h.2
  rw [← hk] at hZ
  have hV:=or_mid s (q % 4503599627370496) k hqm (by omega)
  have hv:q % 4503599627370496+k * 4503599627370496 < 9218868437227405312:=by omega
  have hY:=andNot_mid s q (by omega)
  rw [← hx] at hY
  refine ldexp_sub a x _ _ _ (fP x) n e E _ w hO ho hpl hn ⟨e1,e2⟩ hq hA hE h.1 h.2 hY (by rw [hk2];exact hV) (fun W=>frombits5 _ W) (fun i w'=>?_) C1 C2 C3 hB
  have:=fmul_ok 4368491638549381120 (wrd s (q % 4503599627370496+k * 4503599627370496)) (by decide) (wrd_lt _ _ (by omega)) (mN_fin (by decide) (wrd_fin hv)) i w'
  rw [(mul_comm6 _ _).1,hZ] at this
  exact this
def lV (a:Nat) (n:Int):Nat:=if fK a = 4 then a else xV a n
theorem Ldexp_any (a:Nat) (n:Int) (w:World) (ha:a < 18446744073709551616) (hn:-5000≤n∧n≤5000) :
  Calls Tryz.prog 92 #[.float .f64 a,.int .i64 n] w fun r w'=>r = .returned (.float .f64 (lV a n))∧w = w':=by
 refine Ldexp_of a _ n w fun w'=>?_
 have C1:=fun w'=>isInf8_any a w' ha
 have C2:=fun w'=>isNaN8_any a w' ha
 unfold lV
 by_cases a4:fK a = 4
 ·rw [if_pos a4]
  rw [decide_eq_false (show ¬ fK a = 3 by omega)] at C1
  rw [decide_eq_true a4] at C2
  exact ldexp_odd a n false true _ w' (order_nan a 0 ha (by decide) (.inl a4)) (.inl rfl) (.inr ⟨rfl,rfl⟩) C1 C2
 rw [if_neg a4]
 unfold xV
 rw [if_neg a4]
 by_cases a3:fK a = 3
 ·rw [if_pos (Or.inl a3)]
  rw [decide_eq_true a3] at C1
  exact ldexp_odd a n true _ _ w' (order_0_sign a ha a4 (by omega)) (by cases fS a <;> simp) (.inl rfl) C1 C2
 by_cases a0:fK a = 0
 ·rw [if_pos (Or.inr a0)]
  have hz:fZ a = 0:=by
   have:=fZ_abs a
   rw [(fK_zero a).1 a0,rv_zero] at this
   omega
  exact ldexp_zero a n w' (by rw [show FloatKind.f64.format.order a 0 = Ieee.double.order a 0 from rfl,order_0 a ha a4,Int.compare_eq_eq.2 hz])
 ·rw [if_neg (by omega)]
  have fa:=fin_of a a3 a4
  obtain ⟨β,x1,x2,x3,x4⟩:=odd_mag a ha fa a0
  have e3:rnd (fD a).natAbs (fX a+n) = rnd (rv (fR a)) (n - 1074):=by
   rw [x2,rnd_scale];congr 1;omega
  rw [e3]
  exact ldexp_fin a n w' ha fa a0 hn
theorem canon_lV (a:Nat) (n:Int) (w:World) (ha:a < 18446744073709551616) :
  Calls Tryz.prog 63 #[.int .u64 (lV a n:Nat)] w fun r w'=>r = .returned (.int .u64 (xV a n:Nat))∧w = w':=by
 unfold lV
 by_cases a4:fK a = 4
 ·rw [if_pos a4]
  have:=canon_any a w ha
  rw [if_pos a4] at this
  rw [show xV a n = 9221120237041090560 by unfold xV;rw [if_pos a4]]
  exact this
 ·rw [if_neg a4]
  have:=canon_any (xV a n) w (xV_lt a n ha)
  have h:fK (xV a n) ≠ 4:=by
   unfold xV
   rw [if_neg a4]
   split
   ·exact a4
   ·exact wrd_kind _ _ (rnd_le _ _)
  rw [if_neg h] at this
  exact this
end Go.Proofs.YtnnfjeieennffaaGreatDoor
namespace Go.Proofs.YtnnfjeieennffaaGreatDoor
def isq:Nat→Nat
 | 0=>0
 | n+1=>if (isq n+1) * (isq n+1)≤n+1 then isq n+1 else isq n
theorem sq_succ (m:Nat):(m+1) * (m+1) = m * m+2 * m+1:=by rw [Nat.add_mul,Nat.mul_add];omega
theorem sq_le {a b:Nat} (h:a≤b):a * a≤b * b:=Nat.mul_le_mul h h
theorem sq_lt {a b:Nat} (h:a < b):a * a < b * b:=Nat.mul_lt_mul_of_lt_of_le h (Nat.le_of_lt h) (by omega)
theorem sq_lt_iff {a b:Nat}:a * a < b * b ↔ a < b:=by
 constructor
 ·intro h
  rcases Nat.lt_or_ge a b with h1 | h1
  ·exact h1
  ·have:=sq_le h1;omega
 ·exact sq_lt
theorem isq_spec (n:Nat):isq n * isq n≤n∧n < (isq n+1) * (isq n+1):=by
 induction n with
 | zero=>exact ⟨Nat.le_refl _,by decide⟩
 | succ n ih =>
  unfold isq
  obtain ⟨h1,h2⟩:=ih
  have e1:=sq_succ (isq n)
  have e2:=sq_succ (isq n+1)
  split
  ·rename_i h
   exact ⟨h,by omega⟩
  ·rename_i h
   exact ⟨by omega,by omega⟩
theorem isq_unique {n m:Nat} (h1:m * m≤n) (h2:n < (m+1) * (m+1)):isq n = m:=by
 obtain ⟨g1,g2⟩:=isq_spec n
 have a1:isq n < m+1:=sq_lt_iff.1 (by omega)
 have a2:m < isq n+1:=sq_lt_iff.1 (by omega)
 omega
theorem isq_mono {n m:Nat} (h:n≤m):isq n≤isq m:=by
 obtain ⟨g1,g2⟩:=isq_spec n
 obtain ⟨k1,k2⟩:=isq_spec m
 have:isq n < isq m+1:=sq_lt_iff.1 (by omega)
 omega
theorem sq_mul (a p:Nat):a * p * (a * p) = a * a * (p * p):=by ac_rfl
theorem isq_scale (N p:Nat) (hp:0 < p):isq (N * (p * p)) / p = isq N:=by
 obtain ⟨g1,g2⟩:=isq_spec N
 obtain ⟨k1,k2⟩:=isq_spec (N * (p * p))
 have hpp:0 < p * p:=Nat.mul_pos hp hp
 have a1:isq N * p < isq (N * (p * p))+1:=by
  apply sq_lt_iff.1
  rw [sq_mul]
  have:isq N * isq N * (p * p)≤N * (p * p):=Nat.mul_le_mul_right _ g1
  omega
 have a2:isq (N * (p * p)) < (isq N+1) * p:=by
  apply sq_lt_iff.1
  rw [sq_mul]
  have:N * (p * p) < (isq N+1) * (isq N+1) * (p * p):=(Nat.mul_lt_mul_right hpp).2 g2
  omega
 have b1:isq N≤isq (N * (p * p)) / p:=(Nat.le_div_iff_mul_le hp).2 (by omega)
 have b2:isq (N * (p * p)) / p < isq N+1:=(Nat.div_lt_iff_lt_mul hp).2 a2
 omega
def rS (N:Nat):Nat:=2 * isq N+(if isq N * isq N = N then 0 else 1)
def cutR (N k:Nat):Nat:=isq N / 2 ^ k+(if (2 * (isq N / 2 ^ k)+1) * 2 ^ k * ((2 * (isq N / 2 ^ k)+1) * 2 ^ k) < 4 * N ∨ ((2 * (isq N / 2 ^ k)+1) * 2 ^ k * ((2 * (isq N / 2 ^ k)+1) * 2 ^ k) = 4 * N∧isq N / 2 ^ k % 2 = 1) then 1 else 0)
theorem cutR_scale (N k i:Nat):cutR (N * (2 ^ i * 2 ^ i)) (k+i) = cutR N k:=by
 have hp:0 < 2 ^ i:=Nat.two_pow_pos _
 have hpp:0 < 2 ^ i * 2 ^ i:=Nat.mul_pos hp hp
 have e:isq (N * (2 ^ i * 2 ^ i)) / 2 ^ (k+i) = isq N / 2 ^ k:=by
  rw [Nat.add_comm k i,Nat.pow_add,← Nat.div_div_eq_div_mul,isq_scale N _ hp]
 unfold cutR
 rw [e]
 generalize isq N / 2 ^ k = m
 have s1:(2 * m+1) * 2 ^ (k+i) * ((2 * m+1) * 2 ^ (k+i)) = (2 * m+1) * 2 ^ k * ((2 * m+1) * 2 ^ k) * (2 ^ i * 2 ^ i):=by
  rw [Nat.pow_add];ac_rfl
 have s2:4 * (N * (2 ^ i * 2 ^ i)) = 4 * N * (2 ^ i * 2 ^ i):=by ac_rfl
 rw [s1,s2]
 have c1:((2 * m+1) * 2 ^ k * ((2 * m+1) * 2 ^ k) * (2 ^ i * 2 ^ i) < 4 * N * (2 ^ i * 2 ^ i)) ↔ (2 * m+1) * 2 ^ k * ((2 * m+1) * 2 ^ k) < 4 * N:=Nat.mul_lt_mul_right hpp
 have c2:((2 * m+1) * 2 ^ k * ((2 * m+1) * 2 ^ k) * (2 ^ i * 2 ^ i) = 4 * N * (2 ^ i * 2 ^ i)) ↔ (2 * m+1) * 2 ^ k * ((2 * m+1) * 2 ^ k) = 4 * N :=
  ⟨fun h=>Nat.eq_of_mul_eq_mul_right hpp h,fun h=>by rw [h]⟩
 simp only [c1,c2]
theorem rS_cut (N k:Nat) (hk:1≤k):cutE (rS N) (k+1) = cutR N k:=by
 obtain ⟨j,rfl⟩:∃ j,k = j+1:=⟨k - 1,by omega⟩
 obtain ⟨n1,n2⟩:=isq_spec N
 have hg:0 < 2 ^ j:=Nat.two_pow_pos _
 have e1:(2:Nat) ^ (j+1) = 2 * 2 ^ j:=by rw [Nat.pow_succ,Nat.mul_comm]
 have e2:(2:Nat) ^ (j+1+1) = 2 * (2 * 2 ^ j):=by rw [Nat.pow_succ,e1,Nat.mul_comm]
 have ht:(if isq N * isq N = N then 0 else 1)≤1:=by split <;> omega
 have htz:(if isq N * isq N = N then 0 else 1) = 0 ↔ isq N * isq N = N:=by split <;> simp_all
 unfold cutE cutR rS
 rw [e2,e1]
 generalize (2:Nat) ^ j = g at *
 generalize (if isq N * isq N = N then 0 else 1) = t at *
 generalize isq N = q at *
 have hq:=Nat.div_add_mod q (2 * g)
 have ha:=Nat.mod_lt q (show 0 < 2 * g by omega)
 generalize hA:q % (2 * g) = a at *
 generalize hQ:q / (2 * g) = b at *
 have s1:(2 * q+t) / (2 * (2 * g)) = b:=by
  rw [← hq,Nat.mul_add,← Nat.mul_assoc 2 (2 * g) b,Nat.add_assoc]
  rw [Nat.mul_add_div (by omega),Nat.div_eq_of_lt (by omega),Nat.add_zero]
 have s2:(2 * q+t) % (2 * (2 * g)) = 2 * a+t:=by
  rw [← hq,Nat.mul_add,← Nat.mul_assoc 2 (2 * g) b,Nat.add_assoc,Nat.mul_add_mod,Nat.mod_eq_of_lt (by omega)]
 rw [s1,s2]
 congr 1
 -- half between two,as a square
 obtain ⟨c,hc⟩:∃ c,c = 2 * g * b+g:=⟨_,rfl⟩
 have hM:(2 * b+1) * (2 * g) * ((2 * b+1) * (2 * g)) = 4 * (c * c):=by
  have:(2 * b+1) * (2 * g) = 2 * c:=by rw [hc,Nat.add_mul,Nat.one_mul,Nat.mul_add];ac_rfl
  rw [this,show (4:Nat) = 2 * 2 by decide]
  ac_rfl
 rw [hM]
 clear hM hQ hA s1 s2
 rcases Nat.lt_trichotomy a g with h | h | h
 ·have h1:(q+1) * (q+1)≤c * c:=sq_le (by omega)
  rw [if_neg (by omega),if_neg (by omega)]
 ·have h1:c = q:=by omega
  subst h1
  by_cases h0:c * c = N
  ·have:=htz.2 h0
   by_cases hb:b % 2 = 1
   ·rw [if_pos (Or.inr ⟨by omega,hb⟩),if_pos (Or.inr ⟨by omega,hb⟩)]
   ·rw [if_neg (by omega),if_neg (by omega)]
  ·have:t ≠ 0:=fun e=>h0 (htz.1 e)
   rw [if_pos (Or.inl (by omega)),if_pos (Or.inl (by omega))]
 ·have h1:c * c < q * q:=sq_lt (by omega)
  rw [if_pos (Or.inl (by omega)),if_pos (Or.inl (by omega))]
theorem rS_bl (N i:Nat) (hq:0 < isq N):bl (rS (N * (2 ^ i * 2 ^ i))) = bl (rS N)+i:=by
 have hp:0 < 2 ^ i:=Nat.two_pow_pos _
 have hs:rS N ≠ 0:=by unfold rS;omega
 obtain ⟨b1,b2,b3⟩:=bl_spec (rS N) hs
 have h1:2≤rS N:=by unfold rS;omega
 have hb2:2≤bl (rS N):=by
  rcases Nat.lt_or_ge (bl (rS N)) 2 with h | h
  ·have:bl (rS N) = 1:=by omega
   rw [this] at b3;omega
  ·exact h
 obtain ⟨c,hc⟩:∃ c,bl (rS N) = c+2:=⟨bl (rS N) - 2,by omega⟩
 rw [hc] at b2 b3 ⊢
 have ht:(if isq N * isq N = N then 0 else 1)≤1:=by split <;> omega
 have q3:2 ^ c≤isq N:=by
  rw [show c+2 - 1 = c+1 by omega,Nat.pow_succ] at b2
  unfold rS at b2
  omega
 have q2:isq N < 2 ^ (c+1):=by
  rw [Nat.pow_succ] at b3
  unfold rS at b3
  omega
 have hd:=isq_scale N (2 ^ i) hp
 have m1:2 ^ (c+i)≤isq (N * (2 ^ i * 2 ^ i)):=by
  rw [Nat.pow_add,← Nat.le_div_iff_mul_le hp,hd];exact q3
 have m2:isq (N * (2 ^ i * 2 ^ i)) < 2 ^ (c+1+i):=by
  rw [Nat.pow_add,← Nat.div_lt_iff_lt_mul hp,hd];exact q2
 refine bl_of (by omega) ?_ ?_
 ·rw [show c+2+i - 1 = c+i+1 by omega,Nat.pow_succ]
  unfold rS
  omega
 ·rw [show c+2+i = c+1+i+1 by omega,Nat.pow_succ]
  unfold rS
  have ht:(if isq (N * (2 ^ i * 2 ^ i)) * isq (N * (2 ^ i * 2 ^ i)) = N * (2 ^ i * 2 ^ i) then 0 else 1)≤1:=by split <;> omega
  omega
theorem rS_big {N:Nat} (hq:9007199254740992≤isq N):55≤bl (rS N):=by
 have hs:rS N ≠ 0:=by unfold rS;omega
 obtain ⟨b1,b2,b3⟩:=bl_spec (rS N) hs
 have h:2 ^ 54≤rS N:=by
  have:(2:Nat) ^ 54 = 2 * 9007199254740992:=by decide
  rw [this];unfold rS;omega
 have:=pow_lt_of (Nat.lt_of_le_of_lt h b3)
 omega
theorem rS_step (N i:Nat) (E:Int) (hq:9007199254740992≤isq N) :
  rnd (rS (N * (2 ^ i * 2 ^ i))) (E - i) = rnd (rS N) E∧lastE (rS (N * (2 ^ i * 2 ^ i))) (E - i) = lastE (rS N) E∧(bl (rS (N * (2 ^ i * 2 ^ i))):Int)+(E - i) = (bl (rS N):Int)+E∧E+2≤lastE (rS N) E:=by
 have hb:=rS_bl N i (by omega)
 have h55:=rS_big hq
 have hs:rS N ≠ 0:=by unfold rS;omega
 have hs':rS (N * (2 ^ i * 2 ^ i)) ≠ 0:=fun h=>by
  rw [h] at hb
  have:bl 0 = 0:=rfl
  omega
 have hl:lastE (rS (N * (2 ^ i * 2 ^ i))) (E - i) = lastE (rS N) E:=by unfold lastE;rw [hb];omega
 have hbE:(bl (rS (N * (2 ^ i * 2 ^ i))):Int)+(E - i) = (bl (rS N):Int)+E:=by rw [hb];omega
 have h2:E+2≤lastE (rS N) E:=by have:=(lastE_ge (rS N) E).2.1;omega
 refine ⟨?_,hl,hbE,h2⟩
 have hM:rndM (rS (N * (2 ^ i * 2 ^ i))) (E - i) = rndM (rS N) E:=by
  unfold rndM
  rw [hl]
  obtain ⟨k,hk⟩:∃ k:Nat,lastE (rS N) E = E+k+1∧1≤k:=⟨(lastE (rS N) E - E - 1).toNat,by omega,by omega⟩
  rw [show E - i - lastE (rS N) E = -((k+i+1:Nat):Int) by omega,show E - lastE (rS N) E = -((k+1:Nat):Int) by omega]
  rw [mS_down _ _ (by omega),mS_down _ _ (by omega),rS_cut _ _ (by omega),rS_cut _ _ (by omega)]
  exact cutR_scale _ _ _
 unfold rnd
 rw [if_neg hs,if_neg hs',hbE,hM,hl]
theorem isq_sq (N i:Nat):isq (N * (2 ^ i * 2 ^ i)) * isq (N * (2 ^ i * 2 ^ i)) = N * (2 ^ i * 2 ^ i) ↔ isq N * isq N = N:=by
 have hp:0 < 2 ^ i:=Nat.two_pow_pos _
 have hpp:0 < 2 ^ i * 2 ^ i:=Nat.mul_pos hp hp
 constructor
 ·intro h
  have hd:=isq_scale N (2 ^ i) hp
  generalize hR:isq (N * (2 ^ i * 2 ^ i)) = R at *
  -- 2^i goes into R,since its square goes into R's
  have dv:∀ (n a:Nat),(2 ^ n * 2 ^ n) ∣ a * a→2 ^ n ∣ a:=by
   intro n
   induction n with
   | zero=>intro a _;simp
   | succ n ih =>
    intro a ha
    have h2:2 ∣ a * a:=Nat.dvd_trans ⟨2 ^ n * 2 ^ (n+1),by rw [Nat.pow_succ];ac_rfl⟩ ha
    have h3:a % 2 = 0:=by
     rcases Nat.mod_two_eq_zero_or_one a with h | h
     ·exact h
     ·exfalso
      have:a * a % 2 = 1:=by rw [Nat.mul_mod,h]
      omega
    obtain ⟨b,rfl⟩:∃ b,a = 2 * b:=⟨a / 2,by omega⟩
    have h4:2 ^ n * 2 ^ n ∣ b * b:=by
     obtain ⟨c,hc⟩:=ha
     refine ⟨c,?_⟩
     have:4 * (b * b) = 4 * (2 ^ n * 2 ^ n * c):=by
      have e1:2 * b * (2 * b) = 4 * (b * b):=by rw [show (4:Nat) = 2 * 2 by decide];ac_rfl
      have e2:2 ^ (n+1) * 2 ^ (n+1) * c = 4 * (2 ^ n * 2 ^ n * c):=by rw [Nat.pow_succ,show (4:Nat) = 2 * 2 by decide];ac_rfl
      rw [← e1,hc,e2]
     omega
    obtain ⟨d,hd⟩:=ih b h4
    exact ⟨d,by rw [hd,Nat.pow_succ];ac_rfl⟩
  obtain ⟨c,hc⟩:=dv i R ⟨N,by rw [h];ac_rfl⟩
  rw [hc,Nat.mul_div_cancel_left c hp] at hd
  rw [← hd]
  have:c * c * (2 ^ i * 2 ^ i) = N * (2 ^ i * 2 ^ i):=by rw [← h,hc];ac_rfl
  exact Nat.eq_of_mul_eq_mul_right hpp this
 ·intro h
  have:isq (N * (2 ^ i * 2 ^ i)) = isq N * 2 ^ i:=by
   refine isq_unique ?_ ?_
   ·rw [sq_mul,h];exact Nat.le_refl _
   ·have:=sq_succ (isq N * 2 ^ i)
    rw [sq_mul,h] at this
    omega
  rw [this,sq_mul,h]
theorem rS_flag (N i:Nat) (E:Int) (hq:9007199254740992≤isq N) :
  rflag (oM (rS (N * (2 ^ i * 2 ^ i)):Nat)).natAbs (oE (rS (N * (2 ^ i * 2 ^ i)):Nat) (E - i)) = rflag (oM (rS N:Nat)).natAbs (oE (rS N:Nat) E):=by
 obtain ⟨s1,s2,s3,s4⟩:=rS_step N i E hq
 have hsq:=isq_sq N i
 by_cases h0:isq N * isq N = N
 ·have h1:=hsq.2 h0
  have h2:isq (N * (2 ^ i * 2 ^ i)) = isq N * 2 ^ i:=by
   refine isq_unique ?_ ?_
   ·rw [sq_mul,h0];exact Nat.le_refl _
   ·have:=sq_succ (isq N * 2 ^ i)
    rw [sq_mul,h0] at this
    omega
  have e:rS (N * (2 ^ i * 2 ^ i)) = rS N * 2 ^ i:=by
   unfold rS;rw [if_pos h0,if_pos h1,h2,Nat.add_zero,Nat.add_zero,Nat.mul_assoc]
  have e2:((rS (N * (2 ^ i * 2 ^ i)):Nat):Int) = ((rS N:Nat):Int) * 2 ^ i:=by rw [e,Int.natCast_mul,Int.natCast_pow];rfl
  have:=oM_scale ((rS N:Nat):Int) i (E - i)
  rw [e2,this.1,this.2,show E - (i:Int)+i = E by omega]
 ·have h1:¬ isq (N * (2 ^ i * 2 ^ i)) * isq (N * (2 ^ i * 2 ^ i)) = N * (2 ^ i * 2 ^ i):=fun h=>h0 (hsq.1 h)
  have o1:((rS N:Nat):Int) % 2 = 1:=by unfold rS;rw [if_neg h0];omega
  have o2:((rS (N * (2 ^ i * 2 ^ i)):Nat):Int) % 2 = 1:=by unfold rS;rw [if_neg h1];omega
  have z1:∀ (v:Nat) (e:Int),(v:Int) % 2 = 1→oM (v:Int) = v∧oE (v:Int) e = e:=fun v e h=>by
   have hne:(v:Int) ≠ 0:=by omega
   have a:=(oddOf (v:Int) hne).unique (m':=(v:Int)) (k':=0) ⟨by simp,h⟩
   exact ⟨a.1,by rw [oE_ne _ _ hne,a.2];simp⟩
  rw [(z1 _ (E - i) o2).1,(z1 _ (E - i) o2).2,(z1 _ E o1).1,(z1 _ E o1).2,Int.natAbs_natCast,Int.natAbs_natCast]
  have n1:rS N ≠ 0:=by omega
  have n2:rS (N * (2 ^ i * 2 ^ i)) ≠ 0:=by omega
  unfold rflag
  rw [if_neg n1,if_neg n2,s3,s2,s1,if_neg (show ¬ lastE (rS N) E≤E - i by omega),if_neg (show ¬ lastE (rS N) E≤E by omega)]
end Go.Proofs.YtnnfjeieennffaaGreatDoor
namespace Go.Proofs.YtnnfjeieennffaaGreatDoor
open Go.RowKit
theorem root_two (m k p D α sh:Nat) (e1 e2:Int) (hV:m * 2 ^ k = D * 2 ^ α) (h1:2 * e1 = (k:Int) - 1074 - p) (h2:2 * e2 = (α:Int) - 1074 - sh) (q1:9007199254740992≤isq (m * 2 ^ p)) (q2:9007199254740992≤isq (D * 2 ^ sh)) :
  rnd (rS (m * 2 ^ p)) (e1 - 1) = rnd (rS (D * 2 ^ sh)) (e2 - 1)∧rflag (oM (rS (m * 2 ^ p):Nat)).natAbs (oE (rS (m * 2 ^ p):Nat) (e1 - 1)) = rflag (oM (rS (D * 2 ^ sh):Nat)).natAbs (oE (rS (D * 2 ^ sh):Nat) (e2 - 1)):=by
 have key:∀ (m k p D α sh i:Nat),m * 2 ^ k = D * 2 ^ α→p+2 * i+α = k+sh→m * 2 ^ p * (2 ^ i * 2 ^ i) = D * 2 ^ sh:=by
  intro m k p D α sh i hV hi
  have hp:0 < 2 ^ α:=Nat.two_pow_pos _
  refine Nat.eq_of_mul_eq_mul_right hp ?_
  rw [← Nat.pow_add,Nat.mul_assoc,Nat.mul_assoc,← Nat.pow_add,← Nat.pow_add,show p+(i+i+α) = k+sh by omega,Nat.pow_add,← Nat.mul_assoc,hV]
  ac_rfl
 rcases Int.le_total e2 e1 with h | h
 ·obtain ⟨i,hi⟩:∃ i:Nat,e1 - e2 = i:=⟨(e1 - e2).toNat,by omega⟩
  have e:=key m k p D α sh i hV (by omega)
  have s:=rS_step (m * 2 ^ p) i (e1 - 1) q1
  have f:=rS_flag (m * 2 ^ p) i (e1 - 1) q1
  rw [e,show e1 - 1 - (i:Int) = e2 - 1 by omega] at s f
  exact ⟨s.1.symm,f.symm⟩
 ·obtain ⟨i,hi⟩:∃ i:Nat,e2 - e1 = i:=⟨(e2 - e1).toNat,by omega⟩
  have e:=key D α sh m k p i hV.symm (by omega)
  have s:=rS_step (D * 2 ^ sh) i (e2 - 1) q2
  have f:=rS_flag (D * 2 ^ sh) i (e2 - 1) q2
  rw [e,show e2 - 1 - (i:Int) = e1 - 1 by omega] at s f
  exact ⟨s.1,f⟩
def tS (a:Nat):Nat:=rS (rv (fR a) * 2 ^ 120)
def tV (a:Nat):Nat:=rnd (tS a) (-598)
def tF (a:Nat):Int:=rflag (oM (tS a:Nat)).natAbs (oE (tS a:Nat) (-598))
def sV (a:Nat):Nat :=
 if fK a = 4 then 9221120237041090560
 else if fK a = 0 ∨ a = 9218868437227405312 then a
 else if fS a = true then 9221120237041090560
 else tV a
def sF (a:Nat):Int :=
 if fK a = 4 then 0
 else if fK a = 0 ∨ a = 9218868437227405312 then 0
 else if fS a = true then 16
 else tF a
theorem big_sq {N:Nat} (h:2 ^ 106≤N):9007199254740992≤isq N:=by
 obtain ⟨g1,g2⟩:=isq_spec N
 have e:(9007199254740992:Nat) * 9007199254740992 = 2 ^ 106:=by decide
 have:9007199254740992 < isq N+1:=sq_lt_iff.1 (by omega)
 omega
theorem tS_big (a:Nat) (h0:fK a ≠ 0):9007199254740992≤isq (rv (fR a) * 2 ^ 120):=by
 have hr:rv (fR a) ≠ 0:=fun e=>h0 ((fK_zero a).2 ((rv_eq0 _).1 e))
 refine big_sq (Nat.le_trans (show 2 ^ 106≤1 * 2 ^ 120 by decide) (Nat.mul_le_mul_right _ (by omega)))
theorem root_any (a m k p:Nat) (e:Int) (h0:fK a ≠ 0) (hm:m * 2 ^ k = rv (fR a)) (he:2 * e = (k:Int) - 1074 - p) (hq:9007199254740992≤isq (m * 2 ^ p)) :
  rnd (rS (m * 2 ^ p)) (e - 1) = tV a∧rflag (oM (rS (m * 2 ^ p):Nat)).natAbs (oE (rS (m * 2 ^ p):Nat) (e - 1)) = tF a:=by
 have:=root_two m k p (rv (fR a)) 0 120 e (-597) (by rw [hm];simp) he (by omega) hq (tS_big a h0)
 exact this
end Go.Proofs.YtnnfjeieennffaaGreatDoor
namespace Go.Proofs.YtnnfjeieennffaaGreatDoor
open Go.RowKit
theorem tV_le (a:Nat):tV a≤9218868437227405312:=rnd_le _ _
theorem sV_lt (a:Nat) (ha:a < 18446744073709551616):sV a < 18446744073709551616:=by
 have h:=tV_le a
 unfold sV
 repeat' split
 all_goals omega
theorem tlow:rnd (2 ^ 61) (-598) = 486 * 4503599627370496:=by decide +kernel
theorem thigh:rnd (2 ^ 1110) (-598) = 1535 * 4503599627370496:=by decide +kernel
theorem two60:(2:Nat) ^ 60 * 2 ^ 60 = 1 * 2 ^ 120:=by decide
theorem two1109:(2:Nat) ^ 1109 * 2 ^ 1109 = 2 ^ 2098 * 2 ^ 120:=by decide +kernel
theorem tS_low (a:Nat) (h0:fK a ≠ 0):2 ^ 60≤isq (rv (fR a) * 2 ^ 120)∧2 ^ 61≤tS a:=by
 have hr:rv (fR a) ≠ 0:=fun e=>h0 ((fK_zero a).2 ((rv_eq0 _).1 e))
 have h1:1 * 2 ^ 120≤rv (fR a) * 2 ^ 120:=Nat.mul_le_mul_right _ (by omega)
 obtain ⟨g1,g2⟩:=isq_spec (rv (fR a) * 2 ^ 120)
 have h2:2 ^ 60 < isq (rv (fR a) * 2 ^ 120)+1:=sq_lt_iff.1 (by rw [two60];exact Nat.lt_of_le_of_lt h1 g2)
 refine ⟨Nat.le_of_lt_succ h2,?_⟩
 have h3:=Nat.le_of_lt_succ h2
 have e:(2:Nat) ^ 61 = 2 * 2 ^ 60:=by decide
 unfold tS rS
 rw [e]
 exact Nat.le_trans (Nat.mul_le_mul_left 2 h3) (Nat.le_add_right _ _)
theorem sq_top {V P c R:Nat} (hV:V < P) (hc:0 < c) (hR:R * R = P * c):isq (V * c) < R:=by
 obtain ⟨g1,g2⟩:=isq_spec (V * c)
 have:V * c < P * c:=(Nat.mul_lt_mul_right hc).2 hV
 exact sq_lt_iff.1 (by rw [hR];omega)
theorem sq_topV {V:Nat} (h:V < 2 ^ 2098):isq (V * 2 ^ 120) < 2 ^ 1109:=by
 have h1:=two1109
 have h2:=Nat.two_pow_pos 120
 generalize (2:Nat) ^ 1109 = R at *
 generalize (2:Nat) ^ 2098 = P at *
 generalize (2:Nat) ^ 120 = c at *
 exact sq_top h h2 h1
theorem e1110:(2:Nat) ^ 1110 = 2 ^ 1109 * 2:=by decide +kernel
theorem rS_lt {N P:Nat} (h:isq N < P):rS N≤P * 2:=by
 unfold rS
 have ht:(if isq N * isq N = N then 0 else 1)≤1:=by split <;> omega
 omega
theorem tV_range (a:Nat) (hf:fFin a = true) (h0:fK a ≠ 0):486 * 4503599627370496≤tV a∧tV a≤1535 * 4503599627370496:=by
 have h1:=fZ_lt a hf
 rw [fZ_abs] at h1
 have h3:=sq_topV h1
 have h4:tS a≤2 ^ 1110:=by
  rw [e1110]
  generalize (2:Nat) ^ 1109 = R at *
  exact rS_lt h3
 refine ⟨?_,?_⟩
 ·rw [← tlow];exact rnd_mono _ (tS_low a h0).2
 ·rw [← thigh];exact rnd_mono _ h4
end Go.Proofs.YtnnfjeieennffaaGreatDoor
