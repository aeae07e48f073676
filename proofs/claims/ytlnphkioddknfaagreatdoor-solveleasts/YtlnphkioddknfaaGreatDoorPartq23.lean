/- Part 23 of the texts. -/
import Derived.Test.YtlnphkioddknfaaGreatDoorPartq19
import Derived.Test.YtlnphkioddknfaaGreatDoorPartq22
import Derived.Test.YtlnphkioddknfaaGreatDoorPartq21
import Derived.Test.YtlnphkioddknfaaGreatDoorPartq10
import Derived.Test.YtlnphkioddknfaaGreatDoorPartq07
import Derived.Test.YtlnphkioddknfaaGreatDoorPartq17
import Derived.Test.YtlnphkioddknfaaGreatDoorPartq18
import Derived.Deep.Cut
import Derived.BigQuiet
import Derived.Test.YtlnphkioddknfaaGreatDoorPartq20
import Derived.Test.YtlnphkioddknfaaGreatDoorPartq16
import Derived.Test.YtlnphkioddknfaaGreatDoorPartq13
import Derived.Test.YtlnphkioddknfaaGreatDoorPartq12
import Derived.Deep.RegionHeld3
import Derived.Laws.Cover2
import Derived.Laws.Externs
import Derived.Test.YtlnphkioddknfaaGreatDoorPartq04
import Derived.Laws.FloatArith
set_option maxHeartbeats 4000000
set_option maxRecDepth 20000
namespace Go.Proofs.YtlnphkioddknfaaGreatDoor
open Go.RowKit
theorem tsigned_ways (z a b:Nat) (s t:Bool) (o:Nat) (w:World)
  (C1:∀ w',Calls Tryz.prog 118 #[.int .u64 a] w' fun r w''=>r = .returned (.bool s)∧Below w'.heap.size w' w'')
  (C2:∀ w',Calls Tryz.prog 118 #[.int .u64 b] w' fun r w''=>r = .returned (.bool t)∧Below w'.heap.size w' w'')
  (C3:∀ w',Calls Tryz.prog 119 #[.int .u64 z] w' fun r w''=>r = .returned (.int .u64 (o:Nat))∧w' = w'') :
  Calls Tryz.prog 225 #[.int .u64 z,.int .u64 a,.int .u64 b] w fun r w'=>r = .returned (.int .u64 ((if (s ^^ t) = true then o else z:Nat):Int))∧Below w.heap.size w w':=by
 have K1:=hide C1;have K2:=hide C2;have K3:=hide C3
 clear C1 C2 C3
 go_enter Tryz.func225,Tryz.ntmps225
 go_wp2_with fail
 refine (uH K1 _).mono ?_
 rintro e w1 ⟨rfl,hb1⟩
 go_wp2_with fail
 refine (uH K2 _).mono ?_
 rintro e w2 ⟨rfl,hb2⟩
 have B:=hide (hb1.trans (hb2.mono hb1.size))
 clear hb1 hb2 K1 K2
 cases s <;> cases t
 ·go_wp2
  go_ret
  exact ⟨rfl,uH B⟩
 ·go_wp2_with fail
  refine (uH K3 _).mono ?_
  rintro e w3 ⟨rfl,rfl⟩
  go_wp2
  go_ret
  exact ⟨rfl,uH B⟩
 ·go_wp2_with fail
  refine (uH K3 _).mono ?_
  rintro e w3 ⟨rfl,rfl⟩
  go_wp2
  go_ret
  exact ⟨rfl,uH B⟩
 ·go_wp2
  go_ret
  exact ⟨rfl,uH B⟩
theorem tsigned_any (z a b:Nat) (w:World) (ha:a < 18446744073709551616) (hb:b < 18446744073709551616) (hz:z < 9223372036854775808) :
  Calls Tryz.prog 225 #[.int .u64 z,.int .u64 a,.int .u64 b] w fun r w'=>r = .returned (.int .u64 (wrd (fS a ^^ fS b) z:Nat))∧Below w.heap.size w w':=by
 have h:=tsigned_ways z a b (fS a) (fS b) (fN z) w (fun w'=>ssign_any a w' ha) (fun w'=>ssign_any b w' hb) (fun w'=>sminus_any z w' (by omega))
 have e:(if (fS a ^^ fS b) = true then fN z else z:Nat) = wrd (fS a ^^ fS b) z:=by
  cases (fS a ^^ fS b)
  ·rw [wrd_false];rfl
  ·rw [← fN_wrd z hz];rfl
 rwa [e] at h
theorem mulFinite_n (a b:Nat) (z1 z2 z3 X1 X2 X3 fl:Int) (w:World) (o:Nat)
  (C1:∀ w',Below w.heap.size w w'→Calls Tryz.prog 203 #[.int .u64 a] w' fun r w''=>DyR w'' r 0 z1 X1∧Below w'.heap.size w' w'')
  (C2:∀ w',Below w.heap.size w w'→Calls Tryz.prog 203 #[.int .u64 b] w' fun r w''=>DyR w'' r 0 z2 X2∧Below w'.heap.size w' w'')
  (C3:∀ w' v u,Below w.heap.size w w'→IsDy w' v z1 X1→IsDy w' u z2 X2→Calls Tryz.prog 246 #[v,u] w' fun r w''=>DyR w'' r 0 z3 X3∧Below w'.heap.size w' w'')
  (C4:∀ w' v,Below w.heap.size w w'→IsDy w' v z3 X3→Calls Tryz.prog 205 #[v] w' fun r w''=>r = .returned (.tuple #[.int .u64 (o:Nat),.int .u8 fl,.int .i64 0])∧Below w'.heap.size w' w'') :
  Calls Tryz.prog 226 #[.int .u64 a,.int .u64 b] w fun r w'=>r = .returned (.tuple #[.int .u64 (o:Nat),.int .u8 fl])∧Below w.heap.size w w':=by
 have K1:=hide C1;have K2:=hide C2;have K3:=hide C3;have K4:=hide C4
 clear C1 C2 C3 C4
 go_enter Tryz.func226,Tryz.ntmps226
 go_wp2_with fail
 refine (uH K1 _ (Below.refl _ _)).mono ?_
 rintro e w1 ⟨⟨v,rfl,hv⟩,hb1⟩
 obtain ⟨n1,a1,c1,L1,rfl,i1⟩:=hv
 have hb1a:Below w1.heap.size w1 (w1.alloc (.cells #[.bool n1,.slice a1 L1.length c1,.int .i64 X1] 47)):=(Below.refl _ _).alloc (Nat.le_refl _) _
 have HV:=hide ((show IsDy w1 (.agg #[.bool n1,.slice a1 L1.length c1,.int .i64 X1]) z1 X1 from ⟨n1,a1,c1,L1,rfl,i1⟩).below hb1a)
 have X:=hide (Box3.new w1 (.bool n1) (.slice a1 L1.length c1) (.int .i64 X1))
 have B1:=hide (hb1.trans (hb1a.mono hb1.size))
 clear i1 hb1 hb1a K1
 go_wp2_with fail
 refine (uH K2 _ (uH B1)).mono ?_
 rintro e w2 ⟨⟨v,rfl,hv⟩,hb1⟩
 obtain ⟨n2,a2,c2,L2,rfl,i2⟩:=hv
 have hb1a:Below w2.heap.size w2 (w2.alloc (.cells #[.bool n2,.slice a2 L2.length c2,.int .i64 X2] 47)):=(Below.refl _ _).alloc (Nat.le_refl _) _
 have HU:=hide ((show IsDy w2 (.agg #[.bool n2,.slice a2 L2.length c2,.int .i64 X2]) z2 X2 from ⟨n2,a2,c2,L2,rfl,i2⟩).below hb1a)
 have HV2:=hide (((uH HV).below hb1).below hb1a)
 have x1:=((uH X).all hb1).all hb1a
 have x2:=Box3.new w2 (.bool n2) (.slice a2 L2.length c2) (.int .i64 X2)
 have B2:=hide ((uH B1).trans ((hb1.trans (hb1a.mono hb1.size)).mono (uH B1).size))
 have y0:=x1.c0;have y1:=x1.c1;have y2:=x1.c2;have u0:=x2.c0;have u1:=x2.c1;have u2:=x2.c2
 clear i2 hb1 hb1a K2 B1 HV X x1 x2
 go_wp2_with fail
 refine (uH K3 _ _ _ (uH B2) (uH HV2) (uH HU)).mono ?_
 rintro e w3 ⟨⟨v,rfl,hv⟩,hb1⟩
 clear y0 y1 y2 u0 u1 u2
 obtain ⟨n3,a3,c3,L3,rfl,i3⟩:=hv
 have hb1a:Below w3.heap.size w3 (w3.alloc (.cells #[.bool n3,.slice a3 L3.length c3,.int .i64 X3] 47)):=(Below.refl _ _).alloc (Nat.le_refl _) _
 have HX:=hide ((show IsDy w3 (.agg #[.bool n3,.slice a3 L3.length c3,.int .i64 X3]) z3 X3 from ⟨n3,a3,c3,L3,rfl,i3⟩).below hb1a)
 have B3:=hide ((uH B2).trans ((hb1.trans (hb1a.mono hb1.size)).mono (uH B2).size))
 have x3:=Box3.new w3 (.bool n3) (.slice a3 L3.length c3) (.int .i64 X3)
 have y0:=x3.c0;have y1:=x3.c1;have y2:=x3.c2
 clear i3 hb1 hb1a K3 B2 HV2 HU x3
 generalize L3.length = l3 at *
 go_wp2_with fail
 refine (uH K4 _ _ (uH B3) (uH HX)).mono ?_
 rintro e w4 ⟨rfl,hb1⟩
 have B4:=hide ((uH B3).trans (hb1.mono (uH B3).size))
 clear hb1 K4 B3
 go_wp2
 exact bodyPost_ret (v:=.tuple #[.int .u64 o,.int .u8 fl]) (by simp [results,Tryz.results226,go_sem]) rfl ⟨rfl,uH B4⟩
theorem p4196:(2:Nat) ^ 2098 * 2 ^ 2098 = 2 ^ 4196:=by decide +kernel
theorem mZ_Lvl (a b:Nat) (fa:fFin a = true) (fb:fFin b = true):Lvl (-1074+-1074) 4196 (fZ a * fZ b):=by
 have h1:=fZ_lt a fa
 have h2:=fZ_lt b fb
 refine ⟨?_,by decide,by decide,by decide⟩
 have h3:=p4196
 have h4:=Nat.two_pow_pos 2098
 rw [Int.natAbs_mul]
 generalize (2:Nat) ^ 4196 = P at *
 generalize (2:Nat) ^ 2098 = Q at *
 rw [← h3]
 exact Nat.mul_lt_mul_of_lt_of_le h1 (Nat.le_of_lt h2) h4
theorem fZ_neg (b:Nat) (h0:fK b ≠ 0):fZ b ≠ 0∧decide (fZ b < 0) = fS b:=by
 have hr:rv (fR b) ≠ 0:=fun e=>h0 ((fK_zero b).2 ((rv_eq0 _).1 e))
 unfold fZ pv
 cases fS b
 ·simp only [Bool.false_eq_true,if_false]
  exact ⟨by omega,decide_eq_false (by omega)⟩
 ·simp only [if_true]
  exact ⟨by omega,decide_eq_true (by omega)⟩
theorem mZ_neg (a b:Nat) (a0:fK a ≠ 0) (b0:fK b ≠ 0):fZ a * fZ b ≠ 0∧decide (fZ a * fZ b < 0) = (fS a ^^ fS b):=by
 obtain ⟨h1,h2⟩:=fZ_neg a a0
 obtain ⟨h3,h4⟩:=fZ_neg b b0
 refine ⟨Int.mul_ne_zero h1 h3,?_⟩
 rw [← h2,← h4]
 generalize fZ a = x at *
 generalize fZ b = y at *
 rcases Int.lt_or_gt_of_ne h1 with hx | hx <;> rcases Int.lt_or_gt_of_ne h3 with hy | hy
 ·have:=Int.mul_pos_of_neg_of_neg hx hy
  rw [decide_eq_true hx,decide_eq_true hy,decide_eq_false (by omega)];rfl
 ·have:=Int.mul_neg_of_neg_of_pos hx hy
  rw [decide_eq_true hx,decide_eq_false (show ¬ y < 0 by omega),decide_eq_true this];rfl
 ·have:=Int.mul_neg_of_pos_of_neg hx hy
  rw [decide_eq_false (show ¬ x < 0 by omega),decide_eq_true hy,decide_eq_true this];rfl
 ·have:=Int.mul_pos hx hy
  rw [decide_eq_false (show ¬ x < 0 by omega),decide_eq_false (show ¬ y < 0 by omega),decide_eq_false (show ¬ x * y < 0 by omega)];rfl
theorem mulFinite_any (a b:Nat) (w:World) (ha:a < 18446744073709551616) (hb:b < 18446744073709551616) (fa:fFin a = true) (fb:fFin b = true) (a0:fK a ≠ 0) (b0:fK b ≠ 0) (hT:Tab w) :
  Calls Tryz.prog 226 #[.int .u64 a,.int .u64 b] w fun r w'=>r = .returned (.tuple #[.int .u64 (mV a b:Nat),.int .u8 (mF a b)])∧Below w.heap.size w w':=by
 obtain ⟨d1,d2⟩:=fZ_level a ha fa
 obtain ⟨d3,d4⟩:=fZ_level b hb fb
 have l3:=mZ_Lvl a b fa fb
 obtain ⟨z0,z1⟩:=mZ_neg a b a0 b0
 have C1:∀ w',Below w.heap.size w w'→_:=fun w' h=>value_some a w' ha fa (hT.all h)
 have C2:∀ w',Below w.heap.size w w'→_:=fun w' h=>value_some b w' hb fb (hT.all h)
 have C3:∀ w' v u,Below w.heap.size w w'→IsDy w' v (fD a) (fX a)→IsDy w' u (fD b) (fX b)→_:=fun w' v u h hv hu =>
  mulN (W1:=2099) (W2:=2099) (W:=4196) (lo1:=-1074) (lo2:=-1074) (z1:=fZ a) (z2:=fZ b) (by rw [d1,d2];exact hv) (by rw [d3,d4];exact hu) (fZ_Lvl a fa) (fZ_Lvl b fb) l3 (hT.all h)
 rw [(mV_fin a b fa fb a0 b0).1,(mV_fin a b fa fb a0 b0).2]
 have C4:∀ w' v,Below w.heap.size w w'→IsDy w' v (oM (fZ a * fZ b)) (oE (fZ a * fZ b) (-1074+-1074))→_:=fun w' v h hv=>round_dy hv l3.right.2 l3.right.1 (hT.all h)
 rw [(rnd_odd (fZ a * fZ b) (-1074+-1074)).1,oM_sign,z1,Int.natAbs_mul,fZ_abs,fZ_abs] at C4
 exact mulFinite_n a b _ _ _ _ _ _ _ w _ C1 C2 C3 C4
theorem tmul_n1 (a b:Nat) (kb:Int) (w:World) 
  (C1:∀ w',Calls Tryz.prog 103 #[.int .u64 a] w' fun r w''=>r = .returned (.int .i64 4)∧Below w'.heap.size w' w'')
  (C2:∀ w',Calls Tryz.prog 103 #[.int .u64 b] w' fun r w''=>r = .returned (.int .i64 kb)∧Below w'.heap.size w' w'') :
  Calls Tryz.prog 201 #[.int .u64 a,.int .u64 b] w fun r w'=>r = .returned (.tuple #[.int .u64 9221120237041090560,.int .u8 0])∧Below w.heap.size w w':=by
 have K1:=hide C1;have K2:=hide C2
 clear C1 C2
 go_enter Tryz.func201,Tryz.ntmps201
 go_wp2_with fail
 refine (uH K1 _).mono ?_
 rintro e w1 ⟨rfl,hb1⟩
 go_wp2_with fail
 refine (uH K2 _).mono ?_
 rintro e w2 ⟨rfl,hb2⟩
 have B:=hide (hb1.trans (hb2.mono hb1.size))
 clear hb1 hb2 K1 K2
 go_wp2
 exact bodyPost_ret (v:=.tuple #[.int .u64 9221120237041090560,.int .u8 0]) (by simp [results,Tryz.results201,go_sem]) rfl ⟨rfl,uH B⟩
theorem tmul_n2 (a b:Nat) (ka:Int) (w:World) (h0:(ka == 4) = false)
  (C1:∀ w',Calls Tryz.prog 103 #[.int .u64 a] w' fun r w''=>r = .returned (.int .i64 ka)∧Below w'.heap.size w' w'')
  (C2:∀ w',Calls Tryz.prog 103 #[.int .u64 b] w' fun r w''=>r = .returned (.int .i64 4)∧Below w'.heap.size w' w'') :
  Calls Tryz.prog 201 #[.int .u64 a,.int .u64 b] w fun r w'=>r = .returned (.tuple #[.int .u64 9221120237041090560,.int .u8 0])∧Below w.heap.size w w':=by
 have K1:=hide C1;have K2:=hide C2
 clear C1 C2
 go_enter Tryz.func201,Tryz.ntmps201
 go_wp2_with fail
 refine (uH K1 _).mono ?_
 rintro e w1 ⟨rfl,hb1⟩
 go_wp2_with fail
 refine (uH K2 _).mono ?_
 rintro e w2 ⟨rfl,hb2⟩
 have B:=hide (hb1.trans (hb2.mono hb1.size))
 clear hb1 hb2 K1 K2
 go_wp2
 exact bodyPost_ret (v:=.tuple #[.int .u64 9221120237041090560,.int .u8 0]) (by simp [results,Tryz.results201,go_sem]) rfl ⟨rfl,uH B⟩
theorem tmul_iz (a b:Nat) (w:World) 
  (C1:∀ w',Calls Tryz.prog 103 #[.int .u64 a] w' fun r w''=>r = .returned (.int .i64 3)∧Below w'.heap.size w' w'')
  (C2:∀ w',Calls Tryz.prog 103 #[.int .u64 b] w' fun r w''=>r = .returned (.int .i64 0)∧Below w'.heap.size w' w'') :
  Calls Tryz.prog 201 #[.int .u64 a,.int .u64 b] w fun r w'=>r = .returned (.tuple #[.int .u64 9221120237041090560,.int .u8 16])∧Below w.heap.size w w':=by
 have K1:=hide C1;have K2:=hide C2
 clear C1 C2
 go_enter Tryz.func201,Tryz.ntmps201
 go_wp2_with fail
 refine (uH K1 _).mono ?_
 rintro e w1 ⟨rfl,hb1⟩
 go_wp2_with fail
 refine (uH K2 _).mono ?_
 rintro e w2 ⟨rfl,hb2⟩
 have B:=hide (hb1.trans (hb2.mono hb1.size))
 clear hb1 hb2 K1 K2
 go_wp2
 exact bodyPost_ret (v:=.tuple #[.int .u64 9221120237041090560,.int .u8 16]) (by simp [results,Tryz.results201,go_sem]) rfl ⟨rfl,uH B⟩
theorem tmul_zi (a b:Nat) (w:World) 
  (C1:∀ w',Calls Tryz.prog 103 #[.int .u64 a] w' fun r w''=>r = .returned (.int .i64 0)∧Below w'.heap.size w' w'')
  (C2:∀ w',Calls Tryz.prog 103 #[.int .u64 b] w' fun r w''=>r = .returned (.int .i64 3)∧Below w'.heap.size w' w'') :
  Calls Tryz.prog 201 #[.int .u64 a,.int .u64 b] w fun r w'=>r = .returned (.tuple #[.int .u64 9221120237041090560,.int .u8 16])∧Below w.heap.size w w':=by
 have K1:=hide C1;have K2:=hide C2
 clear C1 C2
 go_enter Tryz.func201,Tryz.ntmps201
 go_wp2_with fail
 refine (uH K1 _).mono ?_
 rintro e w1 ⟨rfl,hb1⟩
 go_wp2_with fail
 refine (uH K2 _).mono ?_
 rintro e w2 ⟨rfl,hb2⟩
 have B:=hide (hb1.trans (hb2.mono hb1.size))
 clear hb1 hb2 K1 K2
 go_wp2
 exact bodyPost_ret (v:=.tuple #[.int .u64 9221120237041090560,.int .u8 16]) (by simp [results,Tryz.results201,go_sem]) rfl ⟨rfl,uH B⟩
theorem tmul_i (a b:Nat) (kb:Int) (o:Nat) (w:World) (h0:(kb == 4) = false) (h1:(kb == 0) = false)
  (C1:∀ w',Calls Tryz.prog 103 #[.int .u64 a] w' fun r w''=>r = .returned (.int .i64 3)∧Below w'.heap.size w' w'')
  (C2:∀ w',Calls Tryz.prog 103 #[.int .u64 b] w' fun r w''=>r = .returned (.int .i64 kb)∧Below w'.heap.size w' w'')
  (C3:∀ w',Calls Tryz.prog 225 #[.int .u64 9218868437227405312,.int .u64 a,.int .u64 b] w' fun r w''=>r = .returned (.int .u64 (o:Nat))∧Below w'.heap.size w' w'') :
  Calls Tryz.prog 201 #[.int .u64 a,.int .u64 b] w fun r w'=>r = .returned (.tuple #[.int .u64 (o:Nat),.int .u8 0])∧Below w.heap.size w w':=by
 have K1:=hide C1;have K2:=hide C2
 clear C1 C2
 go_enter Tryz.func201,Tryz.ntmps201
 go_wp2_with fail
 refine (uH K1 _).mono ?_
 rintro e w1 ⟨rfl,hb1⟩
 go_wp2_with fail
 refine (uH K2 _).mono ?_
 rintro e w2 ⟨rfl,hb2⟩
 have B:=hide (hb1.trans (hb2.mono hb1.size))
 clear hb1 hb2 K1 K2
 have K3:=hide C3
 clear C3
 go_wp2_with fail
 refine (uH K3 _).mono ?_
 rintro e w3 ⟨rfl,hb3⟩
 have B:=hide ((uH B).trans (hb3.mono (uH B).size))
 clear hb3 K3
 go_wp2
 exact bodyPost_ret (v:=.tuple #[.int .u64 (o:Nat),.int .u8 0]) (by simp [results,Tryz.results201,go_sem]) rfl ⟨rfl,uH B⟩
theorem tmul_j (a b:Nat) (ka:Int) (o:Nat) (w:World) (h0:(ka == 4) = false) (h1:(ka == 0) = false) (h2:(ka == 3) = false)
  (C1:∀ w',Calls Tryz.prog 103 #[.int .u64 a] w' fun r w''=>r = .returned (.int .i64 ka)∧Below w'.heap.size w' w'')
  (C2:∀ w',Calls Tryz.prog 103 #[.int .u64 b] w' fun r w''=>r = .returned (.int .i64 3)∧Below w'.heap.size w' w'')
  (C3:∀ w',Calls Tryz.prog 225 #[.int .u64 9218868437227405312,.int .u64 a,.int .u64 b] w' fun r w''=>r = .returned (.int .u64 (o:Nat))∧Below w'.heap.size w' w'') :
  Calls Tryz.prog 201 #[.int .u64 a,.int .u64 b] w fun r w'=>r = .returned (.tuple #[.int .u64 (o:Nat),.int .u8 0])∧Below w.heap.size w w':=by
 have K1:=hide C1;have K2:=hide C2
 clear C1 C2
 go_enter Tryz.func201,Tryz.ntmps201
 go_wp2_with fail
 refine (uH K1 _).mono ?_
 rintro e w1 ⟨rfl,hb1⟩
 go_wp2_with fail
 refine (uH K2 _).mono ?_
 rintro e w2 ⟨rfl,hb2⟩
 have B:=hide (hb1.trans (hb2.mono hb1.size))
 clear hb1 hb2 K1 K2
 have K3:=hide C3
 clear C3
 go_wp2_with fail
 refine (uH K3 _).mono ?_
 rintro e w3 ⟨rfl,hb3⟩
 have B:=hide ((uH B).trans (hb3.mono (uH B).size))
 clear hb3 K3
 go_wp2
 exact bodyPost_ret (v:=.tuple #[.int .u64 (o:Nat),.int .u8 0]) (by simp [results,Tryz.results201,go_sem]) rfl ⟨rfl,uH B⟩
theorem tmul_z (a b:Nat) (kb:Int) (o:Nat) (w:World) (h0:(kb == 4) = false) (h1:(kb == 3) = false)
  (C1:∀ w',Calls Tryz.prog 103 #[.int .u64 a] w' fun r w''=>r = .returned (.int .i64 0)∧Below w'.heap.size w' w'')
  (C2:∀ w',Calls Tryz.prog 103 #[.int .u64 b] w' fun r w''=>r = .returned (.int .i64 kb)∧Below w'.heap.size w' w'')
  (C3:∀ w',Calls Tryz.prog 225 #[.int .u64 0,.int .u64 a,.int .u64 b] w' fun r w''=>r = .returned (.int .u64 (o:Nat))∧Below w'.heap.size w' w'') :
  Calls Tryz.prog 201 #[.int .u64 a,.int .u64 b] w fun r w'=>r = .returned (.tuple #[.int .u64 (o:Nat),.int .u8 0])∧Below w.heap.size w w':=by
 have K1:=hide C1;have K2:=hide C2
 clear C1 C2
 go_enter Tryz.func201,Tryz.ntmps201
 go_wp2_with fail
 refine (uH K1 _).mono ?_
 rintro e w1 ⟨rfl,hb1⟩
 go_wp2_with fail
 refine (uH K2 _).mono ?_
 rintro e w2 ⟨rfl,hb2⟩
 have B:=hide (hb1.trans (hb2.mono hb1.size))
 clear hb1 hb2 K1 K2
 have K3:=hide C3
 clear C3
 go_wp2_with fail
 refine (uH K3 _).mono ?_
 rintro e w3 ⟨rfl,hb3⟩
 have B:=hide ((uH B).trans (hb3.mono (uH B).size))
 clear hb3 K3
 go_wp2
 exact bodyPost_ret (v:=.tuple #[.int .u64 (o:Nat),.int .u8 0]) (by simp [results,Tryz.results201,go_sem]) rfl ⟨rfl,uH B⟩
theorem tmul_y (a b:Nat) (ka:Int) (o:Nat) (w:World) (h0:(ka == 4) = false) (h1:(ka == 3) = false) (h2:(ka == 0) = false)
  (C1:∀ w',Calls Tryz.prog 103 #[.int .u64 a] w' fun r w''=>r = .returned (.int .i64 ka)∧Below w'.heap.size w' w'')
  (C2:∀ w',Calls Tryz.prog 103 #[.int .u64 b] w' fun r w''=>r = .returned (.int .i64 0)∧Below w'.heap.size w' w'')
  (C3:∀ w',Calls Tryz.prog 225 #[.int .u64 0,.int .u64 a,.int .u64 b] w' fun r w''=>r = .returned (.int .u64 (o:Nat))∧Below w'.heap.size w' w'') :
  Calls Tryz.prog 201 #[.int .u64 a,.int .u64 b] w fun r w'=>r = .returned (.tuple #[.int .u64 (o:Nat),.int .u8 0])∧Below w.heap.size w w':=by
 have K1:=hide C1;have K2:=hide C2
 clear C1 C2
 go_enter Tryz.func201,Tryz.ntmps201
 go_wp2_with fail
 refine (uH K1 _).mono ?_
 rintro e w1 ⟨rfl,hb1⟩
 go_wp2_with fail
 refine (uH K2 _).mono ?_
 rintro e w2 ⟨rfl,hb2⟩
 have B:=hide (hb1.trans (hb2.mono hb1.size))
 clear hb1 hb2 K1 K2
 have K3:=hide C3
 clear C3
 go_wp2_with fail
 refine (uH K3 _).mono ?_
 rintro e w3 ⟨rfl,hb3⟩
 have B:=hide ((uH B).trans (hb3.mono (uH B).size))
 clear hb3 K3
 go_wp2
 exact bodyPost_ret (v:=.tuple #[.int .u64 (o:Nat),.int .u8 0]) (by simp [results,Tryz.results201,go_sem]) rfl ⟨rfl,uH B⟩
theorem tmul_f (a b:Nat) (ka kb:Int) (fl:Int) (o:Nat) (w:World) (h0:(ka == 4) = false) (h1:(ka == 3) = false) (h2:(ka == 0) = false) (h3:(kb == 4) = false) (h4:(kb == 3) = false) (h5:(kb == 0) = false) (hT:Tab w)
  (C1:∀ w',Calls Tryz.prog 103 #[.int .u64 a] w' fun r w''=>r = .returned (.int .i64 ka)∧Below w'.heap.size w' w'')
  (C2:∀ w',Calls Tryz.prog 103 #[.int .u64 b] w' fun r w''=>r = .returned (.int .i64 kb)∧Below w'.heap.size w' w'')
  (C3:∀ w',Tab w'→Calls Tryz.prog 226 #[.int .u64 a,.int .u64 b] w' fun r w''=>r = .returned (.tuple #[.int .u64 (o:Nat),.int .u8 fl])∧Below w'.heap.size w' w'') :
  Calls Tryz.prog 201 #[.int .u64 a,.int .u64 b] w fun r w'=>r = .returned (.tuple #[.int .u64 (o:Nat),.int .u8 fl])∧Below w.heap.size w w':=by
 have K1:=hide C1;have K2:=hide C2
 clear C1 C2
 go_enter Tryz.func201,Tryz.ntmps201
 go_wp2_with fail
 refine (uH K1 _).mono ?_
 rintro e w1 ⟨rfl,hb1⟩
 go_wp2_with fail
 refine (uH K2 _).mono ?_
 rintro e w2 ⟨rfl,hb2⟩
 have B:=hide (hb1.trans (hb2.mono hb1.size))
 clear hb1 hb2 K1 K2
 have K3:=hide C3;have HT:=hide (hT.all (uH B))
 clear C3 hT
 go_wp2_with fail
 refine (uH K3 _ (uH HT)).mono ?_
 rintro e w3 ⟨rfl,hb3⟩
 have B:=hide ((uH B).trans (hb3.mono (uH B).size))
 clear hb3 K3 HT
 go_wp2
 exact bodyPost_ret (v:=.tuple #[.int .u64 (o:Nat),.int .u8 fl]) (by simp [results,Tryz.results201,go_sem]) rfl ⟨rfl,uH B⟩
theorem tmul_any (a b:Nat) (w:World) (ha:a < 18446744073709551616) (hb:b < 18446744073709551616) (hT:Tab w) :
  Calls Tryz.prog 201 #[.int .u64 a,.int .u64 b] w fun r w'=>r = .returned (.tuple #[.int .u64 (mV a b:Nat),.int .u8 (mF a b)])∧Below w.heap.size w w':=by
 have C1:=fun w'=>kind_any a w' ha
 have C2:=fun w'=>kind_any b w' hb
 have CI:=fun w'=>tsigned_any 9218868437227405312 a b w' ha hb (by decide)
 have CZ:=fun w'=>tsigned_any 0 a b w' ha hb (by decide)
 by_cases a4:fK a = 4
 ·rw [show mV a b = 9221120237041090560 by unfold mV;rw [if_pos (Or.inl a4)],show mF a b = 0 by unfold mF;rw [if_pos (Or.inl a4)]]
  rw [a4] at C1
  exact tmul_n1 a b _ w C1 C2
 by_cases b4:fK b = 4
 ·rw [show mV a b = 9221120237041090560 by unfold mV;rw [if_pos (Or.inr b4)],show mF a b = 0 by unfold mF;rw [if_pos (Or.inr b4)]]
  rw [b4] at C2
  exact tmul_n2 a b _ w (by simp [a4]) C1 C2
 have n4:¬ (fK a = 4 ∨ fK b = 4):=by omega
 by_cases h3:fK a = 3 ∨ fK b = 3
 ·by_cases h0:fK a = 0 ∨ fK b = 0
  ·rw [show mV a b = 9221120237041090560 by unfold mV;rw [if_neg n4,if_pos h3,if_pos h0],show mF a b = 16 by unfold mF;rw [if_neg n4,if_pos h3,if_pos h0]]
   by_cases a3:fK a = 3
   ·have b0:fK b = 0:=by omega
    rw [a3] at C1
    rw [b0] at C2
    exact tmul_iz a b w C1 C2
   ·have b3:fK b = 3:=by omega
    have a0:fK a = 0:=by omega
    rw [a0] at C1
    rw [b3] at C2
    exact tmul_zi a b w C1 C2
  ·rw [show mV a b = wrd (fS a ^^ fS b) 9218868437227405312 by unfold mV;rw [if_neg n4,if_pos h3,if_neg h0],show mF a b = 0 by unfold mF;rw [if_neg n4,if_pos h3,if_neg h0]]
   by_cases a3:fK a = 3
   ·rw [a3] at C1
    exact tmul_i a b _ _ w (by simp [b4]) (by simp;omega) C1 C2 CI
   ·have b3:fK b = 3:=by omega
    rw [b3] at C2
    exact tmul_j a b _ _ w (by simp [a4]) (by simp;omega) (by simp [a3]) C1 C2 CI
 ·by_cases h0:fK a = 0 ∨ fK b = 0
  ·have hz:rv (fR a) * rv (fR b) = 0:=by
    rcases h0 with h | h
    ·rw [(rv_eq0 _).2 ((fK_zero a).1 h),Nat.zero_mul]
    ·rw [(rv_eq0 _).2 ((fK_zero b).1 h),Nat.mul_zero]
   rw [show mV a b = wrd (fS a ^^ fS b) 0 by unfold mV;rw [if_neg n4,if_neg h3,hz,rnd_0],show mF a b = 0 by unfold mF;rw [if_neg n4,if_neg h3,if_pos h0]]
   by_cases a0:fK a = 0
   ·rw [a0] at C1
    exact tmul_z a b _ _ w (by simp [b4]) (by simp;omega) C1 C2 CZ
   ·have b0:fK b = 0:=by omega
    rw [b0] at C2
    exact tmul_y a b _ _ w (by simp [a4]) (by simp;omega) (by simp [a0]) C1 C2 CZ
  ·exact tmul_f a b _ _ _ _ w (by simp [a4]) (by simp;omega) (by simp;omega) (by simp [b4]) (by simp;omega) (by simp;omega) hT C1 C2 (fun w' t=>mulFinite_any a b w' ha hb (fin_of a (by omega) a4) (fin_of b (by omega) b4) (by omega) (by omega) t)
end Go.Proofs.YtlnphkioddknfaaGreatDoor
namespace Go.Proofs.YtlnphkioddknfaaGreatDoor
open Go.RowKit
theorem r8exp_no (a:Nat) (k:Int) (f:Bool) (w:World) (hw:f = false ∨ (f = true∧k = 0))
  (C1:∀ w',Calls Tryz.prog 100 #[.int .u64 a] w' fun r w''=>r = .returned (.bool f)∧w' = w'')
  (C2:∀ w',Calls Tryz.prog 44 #[.int .u64 a] w' fun r w''=>r = .returned (.int .i64 k)∧w' = w'') :
  Calls Tryz.prog 133 #[.int .u64 a] w fun r w'=>r = .returned (.int .i64 0)∧Below w.heap.size w w':=by
 have K1:=hide C1;have K2:=hide C2
 clear C1 C2
 rcases hw with rfl | ⟨rfl,rfl⟩
 ·go_enter Tryz.func133,Tryz.ntmps133
  go_wp2_with fail
  refine (uH K1 _).mono ?_
  rintro e w1 ⟨rfl,rfl⟩
  go_wp2
  go_ret
  exact ⟨rfl,Below.refl _ _⟩
 ·go_enter Tryz.func133,Tryz.ntmps133
  go_wp2_with fail
  refine (uH K1 _).mono ?_
  rintro e w1 ⟨rfl,rfl⟩
  go_wp2_with fail
  refine (uH K2 _).mono ?_
  rintro e w1 ⟨rfl,rfl⟩
  go_wp2
  go_ret
  exact ⟨rfl,Below.refl _ _⟩
theorem r8exp_of (a:Nat) (k D X t:Int) (w:World) (h0:(k == 0) = false) (ht:-2000≤t∧t≤2000)
  (C1:∀ w',Calls Tryz.prog 100 #[.int .u64 a] w' fun r w''=>r = .returned (.bool true)∧w' = w'')
  (C2:∀ w',Calls Tryz.prog 44 #[.int .u64 a] w' fun r w''=>r = .returned (.int .i64 k)∧w' = w'')
  (C3:∀ w',Calls Tryz.prog 77 #[.int .u64 a] w' fun r w''=>∃ u,r = .returned u∧IsDy w'' u D X∧Below w'.heap.size w' w'')
  (C4:∀ w' v,IsDy w' v D X→Calls Tryz.prog 143 #[v] w' fun r w''=>r = .returned (.int .i64 t)∧Below w'.heap.size w' w'') :
  Calls Tryz.prog 133 #[.int .u64 a] w fun r w'=>r = .returned (.int .i64 (t - 1))∧Below w.heap.size w w':=by
 have K1:=hide C1;have K2:=hide C2;have K3:=hide C3;have K4:=hide C4
 clear C1 C2 C3 C4
 have hw:=wrap_small (t - 1) (by omega)
 go_enter Tryz.func133,Tryz.ntmps133
 go_wp2_with fail
 refine (uH K1 _).mono ?_
 rintro e w1 ⟨rfl,rfl⟩
 go_wp2_with fail
 refine (uH K2 _).mono ?_
 rintro e w1 ⟨rfl,rfl⟩
 go_wp2_with fail
 refine (uH K3 _).mono ?_
 rintro e w1 ⟨v,rfl,hv,hb1⟩
 obtain ⟨n1,a1,c1,L1,rfl,i1⟩:=hv
 have HX:=hide (show IsDy w1 (.agg #[.bool n1,.slice a1 L1.length c1,.int .i64 X]) D X from ⟨n1,a1,c1,L1,rfl,i1⟩)
 have B1:=hide hb1
 clear i1 hb1 K1 K2 K3
 generalize L1.length = l1 at *
 go_wp2_with fail
 refine (uH K4 _ _ (uH HX)).mono ?_
 rintro e w2 ⟨rfl,hb1⟩
 have B2:=hide ((uH B1).trans (hb1.mono (uH B1).size))
 clear hb1 B1 HX K4
 go_wp2
 go_ret
 exact ⟨rfl,uH B2⟩
theorem rtopN {w:World} {v:Value} {D X:Int} (hv:IsDy w v D X) (h1:D % 2 = 1) (h2:D.natAbs < 9007199254740992) (h3:-1074≤X∧X≤1024) :
  Calls Tryz.prog 143 #[v] w fun r w'=>r = .returned (.int .i64 ((bl D.natAbs:Int)+X))∧Below w.heap.size w w':=by
 obtain ⟨na,ao,ca,A,rfl,a1,a2,a3,a4,a5⟩:=hv.right (small_TOP _ (by omega))
 have:=rtop_any na ao ca A X w a1 (by omega) (by omega)
 have hv:val A = D.natAbs:=by rw [← a3,natAbs_sval]
 have hl:=lenL_bl a1.2.1 a2
 have h0:A.length ≠ 0:=fun h=>by
  have:=(sval_zero_iff a2).2 h
  omega
 unfold topR at this
 rw [if_neg h0,hl,hv] at this
 exact this
theorem r8exp_any (a:Nat) (w:World) (ha:a < 18446744073709551616) :
  Calls Tryz.prog 133 #[.int .u64 a] w fun r w'=>r = .returned (.int .i64 (eX a))∧Below w.heap.size w w':=by
 have C1:=fun w'=>rfinite_any a w' ha
 have C2:=fun w'=>rkind_any a w' ha
 unfold eX
 by_cases h:fK a = 4 ∨ fK a = 3 ∨ fK a = 0
 ·rw [if_pos h]
  refine r8exp_no a _ _ w ?_ C1 C2
  rcases fK_cases a with ⟨h1,_⟩ | ⟨h1,h2⟩
  ·exact .inl h1
  ·exact .inr ⟨h1,by omega⟩
 ·rw [if_neg h]
  have fa:=fin_of a (by omega) (by omega)
  obtain ⟨z1,z2,z3,z4,z5,z6,z7,z8,z9⟩:=sc_facts a ha fa (by omega)
  rw [fa] at C1
  exact r8exp_of a _ (fD a) (fX a) _ w (by simp;omega) (by omega) C1 C2 (fun w'=>rvalue_any a w' ha) (fun w' v hv=>rtopN hv z1 z2 (by omega))
end Go.Proofs.YtlnphkioddknfaaGreatDoor
namespace Go.Proofs.YtlnphkioddknfaaGreatDoor
open Go.RowKit
def eN (b:Nat):Int:=if fFin b = true then 0 else if fS b = true then -1 else 1
theorem ends_of (b:Nat) (f s:Bool) (w:World)
  (C1:∀ w',Calls Tryz.prog 100 #[.int .u64 b] w' fun r w''=>r = .returned (.bool f)∧w' = w'')
  (C2:∀ w',Calls Tryz.prog 120 #[.int .u64 b] w' fun r w''=>r = .returned (.bool s)∧w' = w'') :
  Calls Tryz.prog 122 #[.int .u64 b] w fun e w'=>e = .returned (.int .i64 (if f = true then 0 else if s = true then -1 else 1))∧w = w':=by
 have K1:=hide C1;have K2:=hide C2
 clear C1 C2
 cases f
 ·cases s
  ·go_enter Tryz.func122,Tryz.ntmps122
   go_wp2_with fail
   refine (uH K1 _).mono ?_
   rintro e w1 ⟨rfl,rfl⟩
   go_wp2_with fail
   refine (uH K2 _).mono ?_
   rintro e w1 ⟨rfl,rfl⟩
   go_wp2
   go_ret
   exact ⟨rfl,rfl⟩
  ·go_enter Tryz.func122,Tryz.ntmps122
   go_wp2_with fail
   refine (uH K1 _).mono ?_
   rintro e w1 ⟨rfl,rfl⟩
   go_wp2_with fail
   refine (uH K2 _).mono ?_
   rintro e w1 ⟨rfl,rfl⟩
   go_wp2
   go_ret
   exact ⟨rfl,rfl⟩
 ·go_enter Tryz.func122,Tryz.ntmps122
  go_wp2_with fail
  refine (uH K1 _).mono ?_
  rintro e w1 ⟨rfl,rfl⟩
  go_wp2
  go_ret
  exact ⟨rfl,rfl⟩
theorem ends_any (b:Nat) (w:World) (hb:b < 18446744073709551616) :
  Calls Tryz.prog 122 #[.int .u64 b] w fun e w'=>e = .returned (.int .i64 (eN b))∧w = w' :=
 ends_of b (fFin b) (fS b) w (fun w'=>rfinite_any b w' hb) (fun w'=>rneg4_any b w' hb)
theorem rorder_n1 (a b:Nat) (w:World)
  (C1:∀ w',Calls Tryz.prog 44 #[.int .u64 a] w' fun r w''=>r = .returned (.int .i64 4)∧w' = w'') :
  Calls Tryz.prog 68 #[.int .u64 a,.int .u64 b] w fun r w'=>r = .returned (.tuple #[.int .i64 0,.bool false])∧Below w.heap.size w w':=by
 have K1:=hide C1
 clear C1
 go_enter Tryz.func68,Tryz.ntmps68
 go_wp2_with fail
 refine (uH K1 _).mono ?_
 rintro e w1 ⟨rfl,rfl⟩
 clear K1
 go_wp2
 exact bodyPost_ret (v:=.tuple #[.int .i64 0,.bool false]) (by simp [results,Tryz.results68,go_sem]) rfl ⟨rfl,Below.refl _ _⟩
theorem rorder_n2 (a b:Nat) (ka:Int) (w:World) (h4:(ka == 4) = false)
  (C1:∀ w',Calls Tryz.prog 44 #[.int .u64 a] w' fun r w''=>r = .returned (.int .i64 ka)∧w' = w'')
  (C2:∀ w',Calls Tryz.prog 44 #[.int .u64 b] w' fun r w''=>r = .returned (.int .i64 4)∧w' = w'') :
  Calls Tryz.prog 68 #[.int .u64 a,.int .u64 b] w fun r w'=>r = .returned (.tuple #[.int .i64 0,.bool false])∧Below w.heap.size w w':=by
 have K1:=hide C1;have K2:=hide C2
 clear C1 C2
 go_enter Tryz.func68,Tryz.ntmps68
 go_wp2_with fail
 refine (uH K1 _).mono ?_
 rintro e w1 ⟨rfl,rfl⟩
 clear K1
 go_wp2_with fail
 refine (uH K2 _).mono ?_
 rintro e w1 ⟨rfl,rfl⟩
 clear K2
 go_wp2
 exact bodyPost_ret (v:=.tuple #[.int .i64 0,.bool false]) (by simp [results,Tryz.results68,go_sem]) rfl ⟨rfl,Below.refl _ _⟩
theorem rorder_i (a b:Nat) (ka kb x y o:Int) (w:World) (h4:(ka == 4) = false) (g4:(kb == 4) = false)
  (hw:(x = 0∧y = -1∧o = 1) ∨ (x = 0∧y = 1∧o = -1) ∨ (x = -1∧y = 0∧o = -1) ∨ (x = 1∧y = 0∧o = 1) ∨ (x = -1∧y = -1∧o = 0) ∨ (x = 1∧y = 1∧o = 0) ∨ (x = -1∧y = 1∧o = -1) ∨ (x = 1∧y = -1∧o = 1))
  (C1:∀ w',Calls Tryz.prog 44 #[.int .u64 a] w' fun r w''=>r = .returned (.int .i64 ka)∧w' = w'')
  (C2:∀ w',Calls Tryz.prog 44 #[.int .u64 b] w' fun r w''=>r = .returned (.int .i64 kb)∧w' = w'')
  (C3:∀ w',Calls Tryz.prog 122 #[.int .u64 a] w' fun r w''=>r = .returned (.int .i64 x)∧w' = w'')
  (C4:∀ w',Calls Tryz.prog 122 #[.int .u64 b] w' fun r w''=>r = .returned (.int .i64 y)∧w' = w'') :
  Calls Tryz.prog 68 #[.int .u64 a,.int .u64 b] w fun r w'=>r = .returned (.tuple #[.int .i64 o,.bool true])∧Below w.heap.size w w':=by
 have K1:=hide C1;have K2:=hide C2;have K3:=hide C3;have K4:=hide C4
 clear C1 C2 C3 C4
 rcases hw with ⟨rfl,rfl,rfl⟩ | ⟨rfl,rfl,rfl⟩ | ⟨rfl,rfl,rfl⟩ | ⟨rfl,rfl,rfl⟩ | ⟨rfl,rfl,rfl⟩ | ⟨rfl,rfl,rfl⟩ | ⟨rfl,rfl,rfl⟩ | ⟨rfl,rfl,rfl⟩
 all_goals
  go_enter Tryz.func68,Tryz.ntmps68
  go_wp2_with fail
  refine (uH K1 _).mono ?_
  rintro e w1 ⟨rfl,rfl⟩
  clear K1
  go_wp2_with fail
  refine (uH K2 _).mono ?_
  rintro e w1 ⟨rfl,rfl⟩
  clear K2
  go_wp2_with fail
  refine (uH K3 _).mono ?_
  rintro e w1 ⟨rfl,rfl⟩
  clear K3
  go_wp2_with fail
  refine (uH K4 _).mono ?_
  rintro e w1 ⟨rfl,rfl⟩
  clear K4
  go_wp2
  refine bodyPost_ret (v:=.tuple #[.int .i64 _,.bool true]) (by simp [results,Tryz.results68,go_sem];try rfl) rfl ⟨rfl,Below.refl _ _⟩
theorem rorder_f (a b:Nat) (ka kb z1 z2 X1 X2 o:Int) (w:World) (h4:(ka == 4) = false) (g4:(kb == 4) = false)
  (C1:∀ w',Calls Tryz.prog 44 #[.int .u64 a] w' fun r w''=>r = .returned (.int .i64 ka)∧w' = w'')
  (C2:∀ w',Calls Tryz.prog 44 #[.int .u64 b] w' fun r w''=>r = .returned (.int .i64 kb)∧w' = w'')
  (C3:∀ w',Calls Tryz.prog 122 #[.int .u64 a] w' fun r w''=>r = .returned (.int .i64 0)∧w' = w'')
  (C4:∀ w',Calls Tryz.prog 122 #[.int .u64 b] w' fun r w''=>r = .returned (.int .i64 0)∧w' = w'')
  (C5:∀ w',Calls Tryz.prog 77 #[.int .u64 a] w' fun r w''=>∃ u,r = .returned u∧IsDy w'' u z1 X1∧Below w'.heap.size w' w'')
  (C6:∀ w',Calls Tryz.prog 77 #[.int .u64 b] w' fun r w''=>∃ u,r = .returned u∧IsDy w'' u z2 X2∧Below w'.heap.size w' w'')
  (C7:∀ w' v u,IsDy w' v z1 X1→IsDy w' u z2 X2→Calls Tryz.prog 90 #[v,u] w' fun r w''=>r = .returned (.int .i64 o)∧Below w'.heap.size w' w'') :
  Calls Tryz.prog 68 #[.int .u64 a,.int .u64 b] w fun r w'=>r = .returned (.tuple #[.int .i64 o,.bool true])∧Below w.heap.size w w':=by
 have K1:=hide C1;have K2:=hide C2;have K3:=hide C3;have K4:=hide C4;have K5:=hide C5;have K6:=hide C6;have K7:=hide C7
 clear C1 C2 C3 C4 C5 C6 C7
 go_enter Tryz.func68,Tryz.ntmps68
 go_wp2_with fail
 refine (uH K1 _).mono ?_
 rintro e w1 ⟨rfl,rfl⟩
 clear K1
 go_wp2_with fail
 refine (uH K2 _).mono ?_
 rintro e w1 ⟨rfl,rfl⟩
 clear K2
 go_wp2_with fail
 refine (uH K3 _).mono ?_
 rintro e w1 ⟨rfl,rfl⟩
 clear K3
 go_wp2_with fail
 refine (uH K4 _).mono ?_
 rintro e w1 ⟨rfl,rfl⟩
 clear K4
 go_wp2_with fail
 refine (uH K5 _).mono ?_
 rintro e w1 ⟨v,rfl,hv,hb1⟩
 obtain ⟨n1,a1,c1,L1,rfl,i1⟩:=hv
 have HV:=hide (show IsDy w1 (.agg #[.bool n1,.slice a1 L1.length c1,.int .i64 X1]) z1 X1 from ⟨n1,a1,c1,L1,rfl,i1⟩)
 have B1:=hide hb1
 clear i1 hb1 K5
 go_wp2_with fail
 refine (uH K6 _).mono ?_
 rintro e w2 ⟨v,rfl,hv,hb1⟩
 obtain ⟨n2,a2,c2,L2,rfl,i2⟩:=hv
 have HU:=hide (show IsDy w2 (.agg #[.bool n2,.slice a2 L2.length c2,.int .i64 X2]) z2 X2 from ⟨n2,a2,c2,L2,rfl,i2⟩)
 have HV2:=hide ((uH HV).below hb1)
 have B2:=hide ((uH B1).trans (hb1.mono (uH B1).size))
 clear i2 hb1 K6 B1 HV
 go_wp2_with fail
 refine (uH K7 _ _ _ (uH HV2) (uH HU)).mono ?_
 rintro e w3 ⟨rfl,hb1⟩
 have B3:=hide ((uH B2).trans (hb1.mono (uH B2).size))
 clear hb1 K7 B2
 go_wp2
 exact bodyPost_ret (v:=.tuple #[.int .i64 o,.bool true]) (by simp [results,Tryz.results68,go_sem]) rfl ⟨rfl,uH B3⟩
theorem eN_fin {b:Nat} (h:fFin b = true):eN b = 0:=by unfold eN;rw [if_pos h]
theorem eN_inf {b:Nat} (h:fK b = 3):(eN b = -1∧fZ b = -((2 ^ 2098:Nat):Int)) ∨ (eN b = 1∧fZ b = ((2 ^ 2098:Nat):Int)):=by
 have hf:fFin b = false:=by
  rcases fK_cases b with h1 | h1
  ·exact h1.1
  ·omega
 have hr:=(fK_rungs b).2.1.1 h
 unfold eN fZ pv
 rw [hr,rv_inf,if_neg (by rw [hf];decide)]
 cases fS b
 ·exact .inr ⟨rfl,rfl⟩
 ·exact .inl ⟨rfl,rfl⟩
theorem rorder_any (a b:Nat) (w:World) (ha:a < 18446744073709551616) (hb:b < 18446744073709551616) :
  Calls Tryz.prog 68 #[.int .u64 a,.int .u64 b] w fun r w'=>r = .returned (.tuple #[.int .i64 (cO a b),.bool (cB a b)])∧Below w.heap.size w w':=by
 have C1:=fun w'=>rkind_any a w' ha
 have C2:=fun w'=>rkind_any b w' hb
 have C3:=fun w'=>ends_any a w' ha
 have C4:=fun w'=>ends_any b w' hb
 unfold cO cB
 by_cases a4:fK a = 4
 ·rw [if_pos (Or.inl a4),if_pos (Or.inl a4)]
  rw [a4] at C1
  exact rorder_n1 a b w C1
 by_cases b4:fK b = 4
 ·rw [if_pos (Or.inr b4),if_pos (Or.inr b4)]
  rw [b4] at C2
  exact rorder_n2 a b _ w (by simp [a4]) C1 C2
 have h:¬ (fK a = 4 ∨ fK b = 4):=fun h=>h.elim a4 b4
 rw [if_neg h,if_neg h]
 have ka:(fK a == 4) = false:=by simp [a4]
 have kb:(fK b == 4) = false:=by simp [b4]
 have hP:(0:Int) < ((2 ^ 2098:Nat):Int):=Int.natCast_pos.2 (Nat.two_pow_pos 2098)
 by_cases a3:fK a = 3
 ·have za:=eN_inf a3
  by_cases b3:fK b = 3
  ·have zb:=eN_inf b3
   rcases za with ⟨x1,x2⟩ | ⟨x1,x2⟩ <;> rcases zb with ⟨y1,y2⟩ | ⟨y1,y2⟩ <;> rw [x1] at C3 <;> rw [y1] at C4 <;> rw [x2,y2] <;> generalize ((2 ^ 2098:Nat):Int) = P at *
   ·rw [cmpI8_eq rfl];exact rorder_i a b _ _ _ _ _ w ka kb (by decide) C1 C2 C3 C4
   ·rw [cmpI8_lt (by omega)];exact rorder_i a b _ _ _ _ _ w ka kb (by decide) C1 C2 C3 C4
   ·rw [cmpI8_gt (by omega)];exact rorder_i a b _ _ _ _ _ w ka kb (by decide) C1 C2 C3 C4
   ·rw [cmpI8_eq rfl];exact rorder_i a b _ _ _ _ _ w ka kb (by decide) C1 C2 C3 C4
  ·have fb:=fin_of b b3 b4
   have l:=fZ_lt b fb
   rw [eN_fin fb] at C4
   rcases za with ⟨x1,x2⟩ | ⟨x1,x2⟩ <;> rw [x1] at C3 <;> rw [x2] <;> generalize (2 ^ 2098:Nat) = P at *
   ·rw [cmpI8_lt (by omega)];exact rorder_i a b _ _ _ _ _ w ka kb (by decide) C1 C2 C3 C4
   ·rw [cmpI8_gt (by omega)];exact rorder_i a b _ _ _ _ _ w ka kb (by decide) C1 C2 C3 C4
 ·have fa:=fin_of a a3 a4
  have la:=fZ_lt a fa
  rw [eN_fin fa] at C3
  by_cases b3:fK b = 3
  ·have zb:=eN_inf b3
   rcases zb with ⟨y1,y2⟩ | ⟨y1,y2⟩ <;> rw [y1] at C4 <;> rw [y2] <;> generalize (2 ^ 2098:Nat) = P at *
   ·rw [cmpI8_gt (by omega)];exact rorder_i a b _ _ _ _ _ w ka kb (by decide) C1 C2 C3 C4
   ·rw [cmpI8_lt (by omega)];exact rorder_i a b _ _ _ _ _ w ka kb (by decide) C1 C2 C3 C4
  ·have fb:=fin_of b b3 b4
   rw [eN_fin fb] at C4
   clear la
   obtain ⟨d1,d2⟩:=fZ_level a ha fa
   obtain ⟨d3,d4⟩:=fZ_level b hb fb
   exact rorder_f a b _ _ (fD a) (fD b) (fX a) (fX b) _ w ka kb C1 C2 C3 C4 (fun w'=>rvalue_any a w' ha) (fun w'=>rvalue_any b w' hb)
    (fun w' v u hv hu=>rcmpN (W:=2099) (lo:=-1074) (z1:=fZ a) (z2:=fZ b) (by rw [d1,d2];exact hv) (by rw [d3,d4];exact hu) (fZ_Lvl a fa) (fZ_Lvl b fb))
theorem r8abs_any (a:Nat) (w:World) (ha:a < 18446744073709551616) :
  Calls Tryz.prog 67 #[.int .u64 a] w fun e w'=>e = .returned (.int .u64 (fR a:Nat))∧w = w':=by
 have K1:=hide (fun w'=>rneg4_any a w' ha)
 have K2:=hide (fun w'=>rminus4_any a w' ha)
 cases hs:fS a
 ·rw [hs] at K1
  rw [abs_plus a hs ha]
  clear hs ha K2
  go_enter Tryz.func67,Tryz.ntmps67
  go_wp2_with fail
  refine (uH K1 _).mono ?_
  rintro e w1 ⟨rfl,rfl⟩
  clear K1
  go_wp2
  go_ret
  exact ⟨rfl,rfl⟩
 ·rw [hs] at K1
  rw [abs_minus a hs ha]
  clear hs ha
  generalize fN a = q at *
  go_enter Tryz.func67,Tryz.ntmps67
  go_wp2_with fail
  refine (uH K1 _).mono ?_
  rintro e w1 ⟨rfl,rfl⟩
  clear K1
  go_wp2_with fail
  refine (uH K2 _).mono ?_
  rintro e w2 ⟨rfl,rfl⟩
  clear K2
  go_wp2
  go_ret
  exact ⟨rfl,rfl⟩
end Go.Proofs.YtlnphkioddknfaaGreatDoor
namespace Go.Proofs.YtlnphkioddknfaaGreatDoor
open Go.RowKit
theorem frombits5 (R:Nat) (W:World):(callFunc 167 #[.int .u64 R]).run Tryz.prog W = .ok (.value (.float .f64 R)) W:=by
 rw [run_callFunc_extern (e:=Extern.MathFloatBits.float64frombits) Tryz.func167 (by kernel_rfl) (by kernel_rfl) (by kernel_rfl) (by kernel_rfl)]
 show ((pure (.float .f64 ((R:Int).toNat)):Sem Value).run Tryz.prog W).andThen (fun v w'=>.ok (Next.value v) w') = _
 simp
end Go.Proofs.YtlnphkioddknfaaGreatDoor
namespace Go.Proofs.YtlnphkioddknfaaGreatDoor
open Go.RowKit
def fres (o:Option Nat) (x y:Nat) (w:World):Nat :=
 match o with
 | some r=>r
 | none=>(Question.nanBits .f64 x y).cut (w.tape w.drawn (.nanBits .f64 x y))
def fwld (o:Option Nat) (w:World):World :=
 match o with
 | some _=>w
 | none=>{ w with drawn:=w.drawn+1 }
theorem fadd_run (t:TypeId) (x y:Nat) (w:World):(binOp .add t (.float .f64 x) (.float .f64 y)).run Tryz.prog w = .ok (.float .f64 (fres (Ieee.double.add x y) x y w)) (fwld (Ieee.double.add x y) w):=by
 have hf:FloatKind.f64.format = Ieee.double:=rfl
 cases h:Ieee.double.add x y with
 | some r=>exact run_float_arith w .add t .f64 x y r (by unfold floatBits;rw [hf];exact h)
 | none =>
  simp only [binOp,Op.floatArith,hf,h]
  rfl
theorem fsub_run (t:TypeId) (x y:Nat) (w:World):(binOp .sub t (.float .f64 x) (.float .f64 y)).run Tryz.prog w = .ok (.float .f64 (fres (Ieee.double.sub x y) x y w)) (fwld (Ieee.double.sub x y) w):=by
 have hf:FloatKind.f64.format = Ieee.double:=rfl
 cases h:Ieee.double.sub x y with
 | some r=>exact run_float_arith w .sub t .f64 x y r (by unfold floatBits;rw [hf];exact h)
 | none =>
  simp only [binOp,Op.floatArith,hf,h]
  rfl
theorem below_fwld (o:Option Nat) (w:World):Below w.heap.size w (fwld o w):=by
 cases o
 ·exact (Below.refl _ _).drew
 ·exact Below.refl _ _
theorem fres_none (x y:Nat) (w:World):fres none x y w < 18446744073709551616∧fK (fres none x y w) = 4:=by
 have h:fres none x y w = (w.tape w.drawn (.nanBits .f64 x y) % 2) * 9223372036854775808+9218868437227405312+1+(w.tape w.drawn (.nanBits .f64 x y) / 2) % 4503599627370495:=rfl
 rw [h]
 clear h
 generalize w.tape w.drawn (.nanBits .f64 x y) = t
 have h1:=Nat.mod_lt t (show 0 < 2 by decide)
 have h2:=Nat.mod_lt (t / 2) (show 0 < 4503599627370495 by decide)
 generalize t / 2 % 4503599627370495 = u at *
 generalize t % 2 = v at *
 refine ⟨by omega,(fK_rungs _).1.2 ?_⟩
 unfold fR
 obtain rfl | rfl:v = 0 ∨ v = 1:=by omega
 ·omega
 ·omega
theorem tobits5 (R:Nat) (W:World):(callFunc 130 #[.float .f64 R]).run Tryz.prog W = .ok (.value (.int .u64 R)) W:=by
 rw [run_callFunc_extern (e:=Extern.MathFloatBits.float64bits) Tryz.func130 (by kernel_rfl) (by kernel_rfl) (by kernel_rfl) (by kernel_rfl)]
 show ((pure (.int .u64 (R:Int)):Sem Value).run Tryz.prog W).andThen (fun v w'=>.ok (Next.value v) w') = _
 simp
theorem canon_any (b:Nat) (w:World) (h:b < 18446744073709551616) :
  Calls Tryz.prog 129 #[.int .u64 b] w fun r w'=>r = .returned (.int .u64 ((if fK b = 4 then 9221120237041090560 else b:Nat):Int))∧w = w':=by
 have K:=hide (fun w'=>rkind_any b w' h)
 have hw:IntKind.u64.wrap (b:Int) = (b:Int):=by simp only [IntKind.wrap_u64];omega
 by_cases h4:fK b = 4
 ·rw [if_pos h4]
  rw [h4] at K
  clear h4 h
  go_enter Tryz.func129,Tryz.ntmps129
  go_wp2_with fail
  refine (uH K _).mono ?_
  rintro e w1 ⟨rfl,rfl⟩
  go_wp2
  go_ret
  exact ⟨rfl,rfl⟩
 ·rw [if_neg h4]
  have hk:(fK b == 4) = false:=by simp [h4]
  generalize fK b = k at *
  clear h4 h
  go_enter Tryz.func129,Tryz.ntmps129
  go_wp2_with fail
  refine (uH K _).mono ?_
  rintro e w1 ⟨rfl,rfl⟩
  go_wp2
  go_ret
  exact ⟨rfl,rfl⟩
theorem canon_add (a b:Nat) (w w':World) (ha:a < 18446744073709551616) (hb:b < 18446744073709551616) :
  Calls Tryz.prog 129 #[.int .u64 (fres (Ieee.double.add a b) a b w:Nat)] w' fun r w''=>r = .returned (.int .u64 (aV a b:Nat))∧w' = w'':=by
 cases h:aN a b with
 | true =>
  obtain ⟨h1,h2⟩:=fadd_none a b ha hb h
  rw [h1,h2]
  obtain ⟨h3,h4⟩:=fres_none a b w
  have:=canon_any _ w' h3
  rw [if_pos h4] at this
  exact this
 | false =>
  rw [fadd_some a b ha hb h]
  have:=canon_any (aV a b) w' (aV_lt a b ha hb)
  by_cases h4:fK (aV a b) = 4
  ·exfalso
   have h':=of_decide_eq_false h
   have n4:¬ (fK a = 4 ∨ fK b = 4):=fun e=>h' (Or.inl e)
   unfold aV at h4
   rw [if_neg n4] at h4
   by_cases a3:fK a = 3
   ·rw [if_pos a3,if_neg (fun h=>h' (Or.inr ⟨a3,h.1,h.2⟩))] at h4
    omega
   ·rw [if_neg a3] at h4
    by_cases b3:fK b = 3
    ·rw [if_pos b3] at h4;omega
    ·rw [if_neg b3] at h4
     have hr:=(aV_fin a b (fin_of a a3 (by omega)) (fin_of b b3 (by omega))).1
     have hle:=rnd_le (aZ a b).natAbs (-1074)
     have e:=(add_f a b a3 (by omega) b3 (by omega)).1
     rw [← e] at h4
     have:=(fK_rungs _).1.1 h4
     omega
  ·rw [if_neg h4] at this
   exact this
end Go.Proofs.YtlnphkioddknfaaGreatDoor
