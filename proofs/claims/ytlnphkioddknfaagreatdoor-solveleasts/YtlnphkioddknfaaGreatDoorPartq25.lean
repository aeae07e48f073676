/- Part 25 of the texts. -/
import Derived.Test.YtlnphkioddknfaaGreatDoorPartq23
import Derived.Test.YtlnphkioddknfaaGreatDoorPartq22
import Derived.Test.YtlnphkioddknfaaGreatDoorPartq17
import Derived.Test.YtlnphkioddknfaaGreatDoorPartq18
import Derived.Deep.Cut
import Derived.BigQuiet
import Derived.Test.YtlnphkioddknfaaGreatDoorPartq16
import Derived.Test.YtlnphkioddknfaaGreatDoorPartq09
import Derived.Deep.RegionHeld3
import Derived.Test.YtlnphkioddknfaaGreatDoorPartq24
import Derived.Laws.BitsAllLaws
import Derived.Test.YtlnphkioddknfaaGreatDoorPartq10
import Derived.Test.YtlnphkioddknfaaGreatDoorPartq20
import Derived.Test.YtlnphkioddknfaaGreatDoorPartq04
set_option maxHeartbeats 4000000
set_option maxRecDepth 20000
namespace Go.Proofs.YtlnphkioddknfaaGreatDoor
open Go.RowKit
theorem andNot_top (b:Nat) (h:b < 18446744073709551616):bits .andNot .u64 (b:Int) 9223372036854775808 = (fR b:Int):=by
 have h1:=u64_andNot_nat b 9223372036854775808 h (by decide)
 refine h1.trans ?_
 rw [show 18446744073709551615 - 9223372036854775808 = 2 ^ 63 - 1 by decide,Nat.and_two_pow_sub_one_eq_mod]
 rfl
theorem and_2048 (x:Nat) (h:x < 4096):x &&& 2048 = x / 2048 * 2048:=by
 have h2:(x &&& 2 ^ 11) % 2 ^ 11 = 0:=by rw [Nat.and_mod_two_pow];simp
 have h3:(x &&& 2 ^ 11) / 2 ^ 11 = (x / 2 ^ 11) &&& 1:=by rw [Nat.and_div_two_pow]
 rw [Nat.and_one_is_mod] at h3
 have h4:=Nat.div_add_mod (x &&& 2 ^ 11) (2 ^ 11)
 rw [h2,h3] at h4
 rw [show (2048:Nat) = 2 ^ 11 by decide]
 omega
theorem and_clear (b:Nat) (h:b < 18446744073709551616):b &&& 9227875636482146303 = b / 9223372036854775808 * 9223372036854775808+b % 4503599627370496:=by
 have e1:(b &&& 9227875636482146303) % 2 ^ 52 = b % 4503599627370496:=by
  rw [Nat.and_mod_two_pow,show 9227875636482146303 % 2 ^ 52 = 2 ^ 52 - 1 by decide,Nat.and_two_pow_sub_one_eq_mod,Nat.mod_mod]
 have e2:(b &&& 9227875636482146303) / 2 ^ 52 = b / 4503599627370496 / 2048 * 2048:=by
  rw [Nat.and_div_two_pow,show 9227875636482146303 / 2 ^ 52 = 2048 by decide]
  exact and_2048 _ (by omega)
 have:=Nat.div_add_mod (b &&& 9227875636482146303) (2 ^ 52)
 rw [e1,e2] at this
 omega
theorem andNot_mid (s:Bool) (q:Nat) (h:q < 9223372036854775808):bits .andNot .u64 (wrd s q:Nat) 9218868437227405312 = (wrd s (q % 4503599627370496):Nat):=by
 have h1:=u64_andNot_nat (wrd s q) 9218868437227405312 (wrd_lt s q h) (by decide)
 refine h1.trans ?_
 rw [show 18446744073709551615 - 9218868437227405312 = 9227875636482146303 by decide,and_clear _ (wrd_lt s q h)]
 congr 1
 cases s
 ·rw [wrd_false,wrd_false];omega
 ·rw [wrd_true,wrd_true];omega
theorem or_mid (s:Bool) (f p:Nat) (hf:f < 4503599627370496) (hp:p < 2048):bits .or .u64 (wrd s f:Nat) ((p * 4503599627370496:Nat):Int) = (wrd s (f+p * 4503599627370496):Nat):=by
 have h1:=bits_or_u64_nat (wrd s f) (p * 4503599627370496) (wrd_lt s f (by omega)) (by omega)
 refine h1.trans ?_
 congr 1
 obtain ⟨t,ht⟩:∃ t,wrd s f = t * 2048 * 4503599627370496+f∧t≤1:=by
  cases s
  ·exact ⟨0,by rw [wrd_false];omega,by omega⟩
  ·exact ⟨1,by rw [wrd_true];omega,by omega⟩
 have e1:(wrd s f ||| p * 4503599627370496) % 2 ^ 52 = f:=by
  rw [Nat.or_mod_two_pow,show p * 4503599627370496 % 2 ^ 52 = 0 by omega,Nat.or_zero]
  omega
 have e2:(wrd s f ||| p * 4503599627370496) / 2 ^ 52 = p+t * 2 ^ 11:=by
  rw [Nat.or_div_two_pow,show p * 4503599627370496 / 2 ^ 52 = p by omega,show wrd s f / 2 ^ 52 = t * 2 ^ 11 by omega,Nat.or_comm]
  exact or_above p t 11 (by omega)
 have:=Nat.div_add_mod (wrd s f ||| p * 4503599627370496) (2 ^ 52)
 rw [e1,e2] at this
 cases s
 ·rw [wrd_false] at *;rw [wrd_false];omega
 ·rw [wrd_true] at *;rw [wrd_true];omega
theorem and_2047 (k:Nat) (h:k < 4096):bits .and .i64 (k:Int) 2047 = ((k % 2048:Nat):Int):=by
 have h1:=Go.bits_nat .i64 62 (by decide) (fun x h0 h1=>by rw [IntKind.wrap_i64];simp at h1;omega) k 2047 (by simp;omega) (by decide)
 refine h1.1.trans ?_
 rw [show (2047:Nat) = 2 ^ 11 - 1 by decide,Nat.and_two_pow_sub_one_eq_mod]
theorem mabs_any (b:Nat) (w:World) (h:b < 18446744073709551616) :
  Calls Tryz.prog 234 #[.float .f64 b] w fun r w'=>r = .returned (.float .f64 (fR b))∧w = w':=by
 have hB:=fun W=>tobits5 b W
 have k:=andNot_top b h
 generalize fR b = q at *
 have hF:=fun W=>frombits5 q W
 go_enter Tryz.func234,Tryz.ntmps234
 go_wp2_with (simp only [k])
 go_ret
 exact ⟨rfl,rfl⟩
theorem isInf_of (b q:Nat) (o:Option Ordering) (i:Bool) (w:World) (hO:FloatKind.f64.format.order q 9218868437227405311 = o)
  (hw:(o = none∧i = false) ∨ (o = some .lt∧i = false) ∨ (o = some .eq∧i = false) ∨ (o = some .gt∧i = true))
  (C1:∀ w',Calls Tryz.prog 234 #[.float .f64 b] w' fun r w''=>r = .returned (.float .f64 q)∧w' = w'') :
  Calls Tryz.prog 207 #[.float .f64 b,.int .i64 0] w fun r w'=>r = .returned (.bool i)∧w = w':=by
 have K1:=hide C1
 clear C1
 rcases hw with ⟨rfl,rfl⟩ | ⟨rfl,rfl⟩ | ⟨rfl,rfl⟩ | ⟨rfl,rfl⟩
 all_goals
  go_enter Tryz.func207,Tryz.ntmps207
  go_wp2_with fail
  refine (uH K1 _).mono ?_
  rintro e w1 ⟨rfl,rfl⟩
  clear K1
  go_wp2
  go_ret
  exact ⟨rfl,rfl⟩
theorem isNaN_of (b:Nat) (o:Option Ordering) (i:Bool) (w:World) (hO:FloatKind.f64.format.order b b = o)
  (hw:(o = none∧i = true) ∨ (o = some .eq∧i = false)) :
  Calls Tryz.prog 208 #[.float .f64 b] w fun r w'=>r = .returned (.bool i)∧w = w':=by
 rcases hw with ⟨rfl,rfl⟩ | ⟨rfl,rfl⟩
 all_goals
  go_enter Tryz.func208,Tryz.ntmps208
  go_wp2
  go_ret
  exact ⟨rfl,rfl⟩
theorem copysign0_any (b:Nat) (w:World) (h:b < 18446744073709551616) :
  Calls Tryz.prog 210 #[.float .f64 0,.float .f64 b] w fun r w'=>r = .returned (.float .f64 (wrd (fS b) 0))∧w = w':=by
 have hB1:∀ W,(callFunc 130 #[.float .f64 0]).run Tryz.prog W = .ok (.value (.int .u64 0)) W:=fun W=>tobits5 0 W
 have hB2:=fun W=>tobits5 b W
 have a1:bits .andNot .u64 0 9223372036854775808 = 0:=by decide +kernel
 have a2:=and_top b h
 cases hs:fS b
 ·rw [hs] at a2
  simp only [Bool.false_eq_true,if_false] at a2
  rw [wrd_false]
  have hF:∀ W,(callFunc 167 #[.int .u64 0]).run Tryz.prog W = .ok (.value (.float .f64 0)) W:=fun W=>frombits5 0 W
  have a3:bits .or .u64 0 0 = 0:=by decide +kernel
  go_enter Tryz.func210,Tryz.ntmps210
  go_wp2_with (simp only [a1,a2,a3])
  go_ret
  exact ⟨rfl,rfl⟩
 ·rw [hs] at a2
  simp only [if_true] at a2
  rw [wrd_true]
  have hF:∀ W,(callFunc 167 #[.int .u64 9223372036854775808]).run Tryz.prog W = .ok (.value (.float .f64 9223372036854775808)) W:=fun W=>frombits5 9223372036854775808 W
  have a3:bits .or .u64 0 9223372036854775808 = 9223372036854775808:=by decide +kernel
  go_enter Tryz.func210,Tryz.ntmps210
  go_wp2_with (simp only [a1,a2,a3])
  go_ret
  exact ⟨rfl,rfl⟩
theorem inf8_any (s:Int) (o:Nat) (w:World) (hw:(s = 1∧o = 9218868437227405312) ∨ (s = -1∧o = 18442240474082181120)) :
  Calls Tryz.prog 211 #[.int .i64 s] w fun e w'=>e = .returned (.float .f64 o)∧w = w':=by
 have hF1:∀ W,(callFunc 167 #[.int .u64 9218868437227405312]).run Tryz.prog W = .ok (.value (.float .f64 9218868437227405312)) W:=fun W=>frombits5 9218868437227405312 W
 have hF2:∀ W,(callFunc 167 #[.int .u64 18442240474082181120]).run Tryz.prog W = .ok (.value (.float .f64 18442240474082181120)) W:=fun W=>frombits5 18442240474082181120 W
 rcases hw with ⟨rfl,rfl⟩ | ⟨rfl,rfl⟩
 all_goals
  go_enter Tryz.func211,Tryz.ntmps211
  go_wp2
  go_ret
  exact ⟨rfl,rfl⟩
theorem normalize_of (b q r:Nat) (e:Int) (o:Option Ordering) (w:World) (hO:FloatKind.f64.format.order q 4503599627370496 = o)
  (hw:(o = some .lt∧e = -52∧∀ i w',(binOp .mul i (.float .f64 b) (.float .f64 4841369599423283200)).run Tryz.prog w' = .ok (.float .f64 r) w') ∨ (o = some .eq∧e = 0∧r = b) ∨ (o = some .gt∧e = 0∧r = b))
  (C1:∀ w',Calls Tryz.prog 234 #[.float .f64 b] w' fun r w''=>r = .returned (.float .f64 q)∧w' = w'') :
  Calls Tryz.prog 209 #[.float .f64 b] w fun s w'=>s = .returned (.tuple #[.float .f64 r,.int .i64 e])∧w = w':=by
 have K1:=hide C1
 clear C1
 rcases hw with ⟨rfl,rfl,hm⟩ | ⟨rfl,rfl,rfl⟩ | ⟨rfl,rfl,rfl⟩
 all_goals
  go_enter Tryz.func209,Tryz.ntmps209
  go_wp2_with fail
  refine (uH K1 _).mono ?_
  rintro e w1 ⟨rfl,rfl⟩
  clear K1
  go_wp2
  exact bodyPost_ret (v:=.tuple #[.float .f64 r,.int .i64 _]) (by simp [results,Tryz.results209,go_sem];try rfl) rfl ⟨rfl,rfl⟩
end Go.Proofs.YtlnphkioddknfaaGreatDoor
namespace Go.Proofs.YtlnphkioddknfaaGreatDoor
open Go.RowKit
theorem ldexp_low (a x z p:Nat) (n e E:Int) (o:Option Ordering) (w:World) (hO:FloatKind.f64.format.order a 0 = o) (ho:o = some .lt ∨ o = some .gt)
  (hp:p < 2048) (hn:-5000≤n∧n≤5000) (he:-52≤e∧e≤0) (hq:(x:Int) / 4503599627370496 < 4096) (hA:bits .and .i64 ((x:Int) / 4503599627370496) 2047 = (p:Int)) (hE:n+e+((p:Int) - 1023) = E) (g1:E < -1075)
  (C1:∀ w',Calls Tryz.prog 207 #[.float .f64 a,.int .i64 0] w' fun r w''=>r = .returned (.bool false)∧w' = w'')
  (C2:∀ w',Calls Tryz.prog 208 #[.float .f64 a] w' fun r w''=>r = .returned (.bool false)∧w' = w'')
  (C3:∀ w',Calls Tryz.prog 209 #[.float .f64 a] w' fun r w''=>r = .returned (.tuple #[.float .f64 x,.int .i64 e])∧w' = w'')
  (C4:∀ w',Calls Tryz.prog 210 #[.float .f64 0,.float .f64 x] w' fun r w''=>r = .returned (.float .f64 z)∧w' = w'')
  (hB:∀ W,(callFunc 130 #[.float .f64 x]).run Tryz.prog W = .ok (.value (.int .u64 x)) W) :
  Calls Tryz.prog 173 #[.float .f64 a,.int .i64 n] w fun r w'=>r = .returned (.float .f64 z)∧w = w':=by
 have K1:=hide C1;have K2:=hide C2;have K3:=hide C3;have K4:=hide C4
 clear C1 C2 C3 C4
 have d1:decide (E < -1075) = true:=decide_eq_true g1
 rcases ho with rfl | rfl
 all_goals
  go_enter Tryz.func173,Tryz.ntmps173
  go_wp2_with fail
  refine (uH K1 _).mono ?_
  rintro e w1 ⟨rfl,rfl⟩
  go_wp2_with fail
  refine (uH K2 _).mono ?_
  rintro e w1 ⟨rfl,rfl⟩
  go_wp2_with fail
  refine (uH K3 _).mono ?_
  rintro e w1 ⟨rfl,rfl⟩
  clear K1 K2 K3
  go_wp2_with fail
  refine (uH K4 _).mono ?_
  rintro e w1 ⟨rfl,rfl⟩
  clear K4
  go_wp2
  go_ret
  exact ⟨rfl,rfl⟩
theorem ldexp_high (a x z p:Nat) (n e E:Int) (o o2:Option Ordering) (w:World) (hO:FloatKind.f64.format.order a 0 = o) (ho:o = some .lt ∨ o = some .gt) (hO2:FloatKind.f64.format.order x 0 = o2)
  (hz:(o2 = some .lt∧z = 18442240474082181120) ∨ (o2 = some .gt∧z = 9218868437227405312))
  (hp:p < 2048) (hn:-5000≤n∧n≤5000) (he:-52≤e∧e≤0) (hq:(x:Int) / 4503599627370496 < 4096) (hA:bits .and .i64 ((x:Int) / 4503599627370496) 2047 = (p:Int)) (hE:n+e+((p:Int) - 1023) = E) (g1:1023 < E)
  (C1:∀ w',Calls Tryz.prog 207 #[.float .f64 a,.int .i64 0] w' fun r w''=>r = .returned (.bool false)∧w' = w'')
  (C2:∀ w',Calls Tryz.prog 208 #[.float .f64 a] w' fun r w''=>r = .returned (.bool false)∧w' = w'')
  (C3:∀ w',Calls Tryz.prog 209 #[.float .f64 a] w' fun r w''=>r = .returned (.tuple #[.float .f64 x,.int .i64 e])∧w' = w'')
  (hB:∀ W,(callFunc 130 #[.float .f64 x]).run Tryz.prog W = .ok (.value (.int .u64 x)) W) :
  Calls Tryz.prog 173 #[.float .f64 a,.int .i64 n] w fun r w'=>r = .returned (.float .f64 z)∧w = w':=by
 have K1:=hide C1;have K2:=hide C2;have K3:=hide C3
 have K4:=hide (fun w'=>inf8_any 1 9218868437227405312 w' (by decide))
 have K5:=hide (fun w'=>inf8_any (-1) 18442240474082181120 w' (by decide))
 clear C1 C2 C3
 have d1:decide (E < -1075) = false:=decide_eq_false (by omega)
 have d2:decide (1023 < E) = true:=decide_eq_true g1
 have hE0:-1075≤E:=by omega
 rcases hz with ⟨rfl,rfl⟩ | ⟨rfl,rfl⟩ <;> rcases ho with rfl | rfl
 all_goals
  go_enter Tryz.func173,Tryz.ntmps173
  go_wp2_with fail
  refine (uH K1 _).mono ?_
  rintro e w1 ⟨rfl,rfl⟩
  go_wp2_with fail
  refine (uH K2 _).mono ?_
  rintro e w1 ⟨rfl,rfl⟩
  go_wp2_with fail
  refine (uH K3 _).mono ?_
  rintro e w1 ⟨rfl,rfl⟩
  clear K1 K2 K3
  go_wp2_with fail
  first | refine (uH K4 _).mono ?_ | refine (uH K5 _).mono ?_
  rintro e w1 ⟨rfl,rfl⟩
  clear K4 K5
  go_wp2
  go_ret
  exact ⟨rfl,rfl⟩
theorem ldexp_mid (a x y v r p:Nat) (n e E:Int) (o:Option Ordering) (w:World) (hO:FloatKind.f64.format.order a 0 = o) (ho:o = some .lt ∨ o = some .gt)
  (hp:p < 2048) (hn:-5000≤n∧n≤5000) (he:-52≤e∧e≤0) (hq:(x:Int) / 4503599627370496 < 4096) (hA:bits .and .i64 ((x:Int) / 4503599627370496) 2047 = (p:Int)) (hE:n+e+((p:Int) - 1023) = E) (g1:-1022≤E) (g2:E≤1023)
  (hY:bits .andNot .u64 (x:Int) 9218868437227405312 = (y:Int)) (hV:bits .or .u64 (y:Int) ((E+1023) * 4503599627370496) = (v:Int))
  (hF:∀ W,(callFunc 167 #[.int .u64 v]).run Tryz.prog W = .ok (.value (.float .f64 v)) W)
  (hM:∀ i w',(binOp .mul i (.float .f64 4607182418800017408) (.float .f64 v)).run Tryz.prog w' = .ok (.float .f64 r) w')
  (C1:∀ w',Calls Tryz.prog 207 #[.float .f64 a,.int .i64 0] w' fun r w''=>r = .returned (.bool false)∧w' = w'')
  (C2:∀ w',Calls Tryz.prog 208 #[.float .f64 a] w' fun r w''=>r = .returned (.bool false)∧w' = w'')
  (C3:∀ w',Calls Tryz.prog 209 #[.float .f64 a] w' fun r w''=>r = .returned (.tuple #[.float .f64 x,.int .i64 e])∧w' = w'')
  (hB:∀ W,(callFunc 130 #[.float .f64 x]).run Tryz.prog W = .ok (.value (.int .u64 x)) W) :
  Calls Tryz.prog 173 #[.float .f64 a,.int .i64 n] w fun s w'=>s = .returned (.float .f64 r)∧w = w':=by
 have K1:=hide C1;have K2:=hide C2;have K3:=hide C3
 clear C1 C2 C3
 have d1:decide (E < -1075) = false:=decide_eq_false (by omega)
 have d2:decide (1023 < E) = false:=decide_eq_false (by omega)
 have d3:decide (E < -1022) = false:=decide_eq_false (by omega)
 rcases ho with rfl | rfl
 all_goals
  go_enter Tryz.func173,Tryz.ntmps173
  go_wp2_with fail
  refine (uH K1 _).mono ?_
  rintro e w1 ⟨rfl,rfl⟩
  go_wp2_with fail
  refine (uH K2 _).mono ?_
  rintro e w1 ⟨rfl,rfl⟩
  go_wp2_with fail
  refine (uH K3 _).mono ?_
  rintro e w1 ⟨rfl,rfl⟩
  clear K1 K2 K3
  go_wp2
  go_ret
  exact ⟨rfl,rfl⟩
theorem ldexp_sub (a x y v r p:Nat) (n e E:Int) (o:Option Ordering) (w:World) (hO:FloatKind.f64.format.order a 0 = o) (ho:o = some .lt ∨ o = some .gt)
  (hp:p < 2048) (hn:-5000≤n∧n≤5000) (he:-52≤e∧e≤0) (hq:(x:Int) / 4503599627370496 < 4096) (hA:bits .and .i64 ((x:Int) / 4503599627370496) 2047 = (p:Int)) (hE:n+e+((p:Int) - 1023) = E) (g1:-1075≤E) (g2:E < -1022)
  (hY:bits .andNot .u64 (x:Int) 9218868437227405312 = (y:Int)) (hV:bits .or .u64 (y:Int) ((E+53+1023) * 4503599627370496) = (v:Int))
  (hF:∀ W,(callFunc 167 #[.int .u64 v]).run Tryz.prog W = .ok (.value (.float .f64 v)) W)
  (hM:∀ i w',(binOp .mul i (.float .f64 4368491638549381120) (.float .f64 v)).run Tryz.prog w' = .ok (.float .f64 r) w')
  (C1:∀ w',Calls Tryz.prog 207 #[.float .f64 a,.int .i64 0] w' fun r w''=>r = .returned (.bool false)∧w' = w'')
  (C2:∀ w',Calls Tryz.prog 208 #[.float .f64 a] w' fun r w''=>r = .returned (.bool false)∧w' = w'')
  (C3:∀ w',Calls Tryz.prog 209 #[.float .f64 a] w' fun r w''=>r = .returned (.tuple #[.float .f64 x,.int .i64 e])∧w' = w'')
  (hB:∀ W,(callFunc 130 #[.float .f64 x]).run Tryz.prog W = .ok (.value (.int .u64 x)) W) :
  Calls Tryz.prog 173 #[.float .f64 a,.int .i64 n] w fun s w'=>s = .returned (.float .f64 r)∧w = w':=by
 have K1:=hide C1;have K2:=hide C2;have K3:=hide C3
 clear C1 C2 C3
 have d1:decide (E < -1075) = false:=decide_eq_false (by omega)
 have d2:decide (1023 < E) = false:=decide_eq_false (by omega)
 have d3:decide (E < -1022) = true:=decide_eq_true (by omega)
 rcases ho with rfl | rfl
 all_goals
  go_enter Tryz.func173,Tryz.ntmps173
  go_wp2_with fail
  refine (uH K1 _).mono ?_
  rintro e w1 ⟨rfl,rfl⟩
  go_wp2_with fail
  refine (uH K2 _).mono ?_
  rintro e w1 ⟨rfl,rfl⟩
  go_wp2_with fail
  refine (uH K3 _).mono ?_
  rintro e w1 ⟨rfl,rfl⟩
  clear K1 K2 K3
  go_wp2
  go_ret
  exact ⟨rfl,rfl⟩
theorem ldexp_zero (a:Nat) (n:Int) (w:World) (hO:FloatKind.f64.format.order a 0 = some .eq) :
  Calls Tryz.prog 173 #[.float .f64 a,.int .i64 n] w fun s w'=>s = .returned (.float .f64 a)∧w = w':=by
 go_enter Tryz.func173,Tryz.ntmps173
 go_wp2
 go_ret
 exact ⟨rfl,rfl⟩
theorem ldexp_odd (a:Nat) (n:Int) (i k:Bool) (o:Option Ordering) (w:World) (hO:FloatKind.f64.format.order a 0 = o) (ho:o = none ∨ o = some .lt ∨ o = some .gt) (hw:(i = true) ∨ (i = false∧k = true))
  (C1:∀ w',Calls Tryz.prog 207 #[.float .f64 a,.int .i64 0] w' fun r w''=>r = .returned (.bool i)∧w' = w'')
  (C2:∀ w',Calls Tryz.prog 208 #[.float .f64 a] w' fun r w''=>r = .returned (.bool k)∧w' = w'') :
  Calls Tryz.prog 173 #[.float .f64 a,.int .i64 n] w fun s w'=>s = .returned (.float .f64 a)∧w = w':=by
 have K1:=hide C1;have K2:=hide C2
 clear C1 C2
 rcases hw with rfl | ⟨rfl,rfl⟩
 ·rcases ho with rfl | rfl | rfl
  all_goals
   go_enter Tryz.func173,Tryz.ntmps173
   go_wp2_with fail
   refine (uH K1 _).mono ?_
   rintro e w1 ⟨rfl,rfl⟩
   go_wp2
   go_ret
   exact ⟨rfl,rfl⟩
 ·rcases ho with rfl | rfl | rfl
  all_goals
   go_enter Tryz.func173,Tryz.ntmps173
   go_wp2_with fail
   refine (uH K1 _).mono ?_
   rintro e w1 ⟨rfl,rfl⟩
   go_wp2_with fail
   refine (uH K2 _).mono ?_
   rintro e w1 ⟨rfl,rfl⟩
   go_wp2
   go_ret
   exact ⟨rfl,rfl⟩
theorem Ldexp_of (a r:Nat) (n:Int) (w:World)
  (C1:∀ w',Calls Tryz.prog 173 #[.float .f64 a,.int .i64 n] w' fun s w''=>s = .returned (.float .f64 r)∧w' = w'') :
  Calls Tryz.prog 123 #[.float .f64 a,.int .i64 n] w fun s w'=>s = .returned (.float .f64 r)∧w = w':=by
 have K1:=hide C1
 clear C1
 go_enter Tryz.func123,Tryz.ntmps123
 go_wp2_with fail
 refine (uH K1 _).mono ?_
 rintro e w1 ⟨rfl,rfl⟩
 clear K1
 go_wp2
 go_ret
 exact ⟨rfl,rfl⟩
end Go.Proofs.YtlnphkioddknfaaGreatDoor
namespace Go.Proofs.YtlnphkioddknfaaGreatDoor
open Go.RowKit
theorem fmul_ok (x y:Nat) (hx:x < 18446744073709551616) (hy:y < 18446744073709551616) (h:mN x y = false) (i:TypeId) (w:World) :
  (binOp .mul i (.float .f64 x) (.float .f64 y)).run Tryz.prog w = .ok (.float .f64 (mV x y)) w:=by
 have:=fmul_run i x y w
 rw [fmul_some x y hx hy h] at this
 exact this
theorem mN_fin {x y:Nat} (fx:fFin x = true) (fy:fFin y = true):mN x y = false:=by
 obtain ⟨a3,a4⟩:=fin_kind fx
 obtain ⟨b3,b4⟩:=fin_kind fy
 unfold mN
 exact decide_eq_false (by omega)
theorem rv_one:rv 4607182418800017408 = 2 ^ 1074:=by
 have:=gM_rv 4607182418800017408 (by decide)
 rw [this,show gM 4607182418800017408 = 2 ^ 52 by decide,show 4607182418800017408 / 4503599627370496 - 1 = 1022 by decide]
 exact pow_join 52 1022 1074 (by decide)
theorem wrd_fin {s:Bool} {v:Nat} (h:v < 9218868437227405312):fFin (wrd s v) = true:=(fK_rungs _).2.2.2 (by rw [fR_wrd s v (by omega)];exact h)
theorem wrd_ne0 {s:Bool} {v:Nat} (h:v < 9218868437227405312) (h0:v ≠ 0):fK (wrd s v) ≠ 0:=fun e=>h0 (by have:=(fK_zero _).1 e;rwa [fR_wrd s v (by omega)] at this)
theorem mul_one8 (s:Bool) (v:Nat) (h:v < 9218868437227405312) (h0:v ≠ 0):mV 4607182418800017408 (wrd s v) = wrd s v:=by
 have f2:fFin 4607182418800017408 = true:=by decide
 have k2:fK 4607182418800017408 ≠ 0:=by decide
 have s2:fS 4607182418800017408 = false:=by decide
 have r2:fR 4607182418800017408 = 4607182418800017408:=by decide
 obtain ⟨K,hK⟩:∃ K:Nat,K = 1074:=⟨_,rfl⟩
 have r3:=rv_one
 rw [← hK] at r3
 have hr:=rnd_rv (wrd s v) (wrd_lt s v (by omega)) (wrd_fin h)
 rw [fR_wrd s v (by omega)] at hr
 rw [(mV_fin _ _ f2 (wrd_fin h) k2 (wrd_ne0 h h0)).1,s2,r2,r3,fR_wrd s v (by omega),fS_wrd s v (by omega),Bool.false_xor,Nat.mul_comm,rnd_scale1 _ _ _ (-1074) (by omega),hr]
theorem order_mag (r c:Nat) (hr:r≤9218868437227405312) (hc:c≤9218868437227405312):Ieee.double.order r c = some (compare (rv r:Int) (rv c:Int)):=by
 have:=order_wrd false false r c hr hc
 rw [wrd_false,wrd_false] at this
 exact this
theorem order_mag_lt {r c:Nat} (hc:c≤9218868437227405312) (h:r < c):Ieee.double.order r c = some .lt:=by
 rw [order_mag r c (by omega) hc,Int.compare_eq_lt.2 (by have:=rv8_lt h;omega)]
theorem order_mag_gt {r c:Nat} (hr:r≤9218868437227405312) (h:c < r):Ieee.double.order r c = some .gt:=by
 rw [order_mag r c hr (by omega),Int.compare_eq_gt.2 (by have:=rv8_lt h;omega)]
theorem order_mag_eq (r:Nat) (hr:r≤9218868437227405312):Ieee.double.order r r = some .eq:=by
 rw [order_mag r r hr hr,Int.compare_eq_eq.2 rfl]
theorem fZ_0:fZ 0 = 0:=by decide
theorem order_0 (a:Nat) (ha:a < 18446744073709551616) (n4:fK a ≠ 4):Ieee.double.order a 0 = some (compare (fZ a) 0):=by
 have:=order_bits a 0 ha (by decide) n4 (by decide)
 rwa [fZ_0] at this
theorem order_0_sign (a:Nat) (ha:a < 18446744073709551616) (n4:fK a ≠ 4) (n0:fK a ≠ 0):Ieee.double.order a 0 = if fS a = true then some .lt else some .gt:=by
 obtain ⟨h1,h2⟩:=fZ_neg8 a n0
 rw [order_0 a ha n4,← h2]
 by_cases h:fZ a < 0
 ·rw [decide_eq_true h,if_pos rfl,Int.compare_eq_lt.2 h]
 ·rw [decide_eq_false h,if_neg (by decide),Int.compare_eq_gt.2 (by omega)]
theorem isInf8_any (a:Nat) (w:World) (ha:a < 18446744073709551616) :
  Calls Tryz.prog 207 #[.float .f64 a,.int .i64 0] w fun r w'=>r = .returned (.bool (decide (fK a = 3)))∧w = w':=by
 obtain ⟨r1,r2,r3⟩:=fK_rungs a
 have hl:=fR_lt a
 have C1:=fun w'=>mabs_any a w' ha
 by_cases h4:fK a = 4
 ·rw [decide_eq_false (by omega)]
  have e:fK (fR a) = 4:=by rw [← h4];exact fK_same (by unfold fR;omega)
  exact isInf_of a (fR a) none false w (order_nan _ _ (by omega) (by decide) (.inl e)) (.inl ⟨rfl,rfl⟩) C1
 ·have h5:fR a≤9218868437227405312:=Nat.le_of_not_lt fun h=>h4 (r1.2 h)
  by_cases h3:fK a = 3
  ·rw [decide_eq_true h3]
   exact isInf_of a (fR a) _ true w (order_mag_gt h5 (by have:=r2.1 h3;omega)) (.inr (.inr (.inr ⟨rfl,rfl⟩))) C1
  ·rw [decide_eq_false h3]
   have h6:fR a ≠ 9218868437227405312:=fun h=>h3 (r2.2 h)
   by_cases h7:fR a = 9218868437227405311
   ·rw [h7] at C1
    exact isInf_of a _ _ false w (order_mag_eq _ (by decide)) (.inr (.inr (.inl ⟨rfl,rfl⟩))) C1
   ·exact isInf_of a (fR a) _ false w (order_mag_lt (by decide) (by omega)) (.inr (.inl ⟨rfl,rfl⟩)) C1
theorem isNaN8_any (a:Nat) (w:World) (ha:a < 18446744073709551616) :
  Calls Tryz.prog 208 #[.float .f64 a] w fun r w'=>r = .returned (.bool (decide (fK a = 4)))∧w = w':=by
 by_cases h4:fK a = 4
 ·rw [decide_eq_true h4]
  exact isNaN_of a _ _ w (order_nan a a ha ha (.inl h4)) (.inl ⟨rfl,rfl⟩)
 ·rw [decide_eq_false h4]
  exact isNaN_of a _ _ w (by rw [show FloatKind.f64.format.order a a = Ieee.double.order a a from rfl,order_bits a a ha ha h4 h4,Int.compare_eq_eq.2 rfl]) (.inr ⟨rfl,rfl⟩)
theorem norm8_any (a:Nat) (ha:a < 18446744073709551616) (fa:fFin a = true) (a0:fK a ≠ 0) :
  ∃ (q:Nat) (e:Int),(∀ w,Calls Tryz.prog 209 #[.float .f64 a] w fun s w'=>s = .returned (.tuple #[.float .f64 (wrd (fS a) q),.int .i64 e])∧w = w') ∧
   -52≤e∧e≤0∧4503599627370496≤q∧q < 9218868437227405312∧∀ n:Int,rnd (rv (fR a)) (n - 1074) = rnd (rv q) (n+e - 1074):=by
 have hr:=fR_fin a fa
 have C1:=fun w'=>mabs_any a w' ha
 by_cases h:fR a < 4503599627370496
 ·have h0:fR a ≠ 0:=fun e=>a0 ((fK_zero a).2 e)
  obtain ⟨q,q1,q2,q3,q4⟩:=scale_up52 (fS a) (fR a) h0 h
  rw [b_wrd a ha] at q1
  refine ⟨q,-52,fun w=>?_,by decide,by decide,q2,q3,fun n=>by rw [q4];congr 1⟩
  refine normalize_of a (fR a) (wrd (fS a) q) (-52) _ w (order_mag_lt (by decide) h) (.inl ⟨rfl,rfl,fun i w'=>?_⟩) C1
  rw [← q1]
  exact fmul_ok a _ ha (by decide) (mN_fin fa (by decide)) i w'
 ·refine ⟨fR a,0,fun w=>?_,by decide,by decide,by omega,hr,fun n=>by congr 1;omega⟩
  rw [b_wrd a ha]
  by_cases h7:fR a = 4503599627370496
  ·rw [h7] at C1
   exact normalize_of a _ a 0 _ w (order_mag_eq _ (by decide)) (.inr (.inl ⟨rfl,rfl,rfl⟩)) C1
  ·exact normalize_of a (fR a) a 0 _ w (order_mag_gt (by omega) (by omega)) (.inr (.inr ⟨rfl,rfl,rfl⟩)) C1
theorem ldexp_fin (a:Nat) (n:Int) (w:World) (ha:a < 18446744073709551616) (fa:fFin a = true) (a0:fK a ≠ 0) (hn:-5000≤n∧n≤5000) :
  Calls Tryz.prog 173 #[.float .f64 a,.int .i64 n] w fun r w'=>r = .returned (.float .f64 (wrd (fS a) (rnd (rv (fR a)) (n - 1074))))∧w = w':=by
 obtain ⟨q,e,C3,e1,e2,q1,q2,hN⟩:=norm8_any a ha fa a0
 obtain ⟨a3,a4⟩:=fin_kind fa
 have C1:=fun w'=>isInf8_any a w' ha
 rw [decide_eq_false a3] at C1
 have C2:=fun w'=>isNaN8_any a w' ha
 rw [decide_eq_false a4] at C2
 rw [hN n]
 obtain ⟨s,hs⟩:∃ s,s = fS a:=⟨_,rfl⟩
 have hO:FloatKind.f64.format.order a 0 = (if s = true then some .lt else some .gt):=by rw [hs];exact order_0_sign a ha a4 a0
 have ho:(if s = true then some Ordering.lt else some Ordering.gt) = some .lt ∨ (if s = true then some Ordering.lt else some Ordering.gt) = some .gt:=by cases s <;> simp
 rw [← hs] at C3 ⊢
 obtain ⟨x,hx⟩:∃ x,x = wrd s q:=⟨_,rfl⟩
 have hxl:x < 18446744073709551616:=by rw [hx];exact wrd_lt s q (by omega)
 have xR:fR x = q:=by rw [hx];exact fR_wrd s q (by omega)
 have xS:fS x = s:=by rw [hx];exact fS_wrd s q (by omega)
 have xf:fFin x = true:=by rw [hx];exact wrd_fin q2
 have x0:fK x ≠ 0:=by rw [hx];exact wrd_ne0 q2 (by omega)
 have x4:=(fin_kind xf).2
 rw [← hx] at C3
 have hp:fP x = q / 4503599627370496:=by rw [← xR];rfl
 have hA:bits .and .i64 ((x:Int) / 4503599627370496) 2047 = ((fP x:Nat):Int):=by
  have:=and_2047 (x / 4503599627370496) (by omega)
  rw [show ((x:Int) / 4503599627370496) = ((x / 4503599627370496:Nat):Int) by omega]
  refine this.trans ?_
  unfold fP
  congr 1
  omega
 have hB:=fun W=>tobits5 x W
 obtain ⟨E,hE⟩:∃ E:Int,n+e+((fP x:Int) - 1023) = E:=⟨_,rfl⟩
 have hpl:=fP_lt x
 have hS:=scale_normal q (n+e) E q1 (by rw [← hE,hp];omega)
 rw [hS]
 have hq:(x:Int) / 4503599627370496 < 4096:=by omega
 have hqm:q % 4503599627370496 < 4503599627370496:=Nat.mod_lt _ (by decide)
 rcases (show E < -1075 ∨ 1023 < E ∨ (-1022≤E∧E≤1023) ∨ (-1075≤E∧E < -1022) by omega) with h | h | h | h
 ·rw [scale_low q E h]
  have C4:=fun w'=>copysign0_any x w' hxl
  rw [xS] at C4
  exact ldexp_low a x (wrd s 0) (fP x) n e E _ w hO ho hpl hn ⟨e1,e2⟩ hq hA hE h C1 C2 C3 C4 hB
 ·rw [scale_high q E h]
  have hO2:FloatKind.f64.format.order x 0 = (if s = true then some .lt else some .gt):=by rw [← xS];exact order_0_sign x hxl x4 x0
  refine ldexp_high a x (wrd s 9218868437227405312) (fP x) n e E _ _ w hO ho hO2 ?_ hpl hn ⟨e1,e2⟩ hq hA hE h C1 C2 C3 hB
  cases s
  ·exact .inr ⟨rfl,rfl⟩
  ·exact .inl ⟨rfl,rfl⟩
 ·rw [scale_mid q E h.1 h.2]
  obtain ⟨k,hk⟩:∃ k:Nat,k = (E+1023).toNat:=⟨_,rfl⟩
  have hk2:(E+1023) * 4503599627370496 = ((k * 4503599627370496:Nat):Int):=by omega
  rw [← hk]
  have hV:=or_mid s (q % 4503599627370496) k hqm (by omega)
  have hv:q % 4503599627370496+k * 4503599627370496 < 9218868437227405312:=by omega
  have hv0:q % 4503599627370496+k * 4503599627370496 ≠ 0:=by omega
  have hY:=andNot_mid s q (by omega)
  rw [← hx] at hY
  refine ldexp_mid a x _ _ _ (fP x) n e E _ w hO ho hpl hn ⟨e1,e2⟩ hq hA hE h.1 h.2 hY (by rw [hk2];exact hV) (fun W=>frombits5 _ W) (fun i w'=>?_) C1 C2 C3 hB
  have:=fmul_ok 4607182418800017408 (wrd s (q % 4503599627370496+k * 4503599627370496)) (by decide) (wrd_lt _ _ (by omega)) (mN_fin (by decide) (wrd_fin hv)) i w'
  rw [mul_one8 s _ hv hv0] at this
  exact this
 ·obtain ⟨k,hk⟩:∃ k:Nat,k = (E+53+1023).toNat:=⟨_,rfl⟩
  have hk2:(E+53+1023) * 4503599627370496 = ((k * 4503599627370496:Nat):Int):=by omega
  have hZ:=scale_sub s q E h.1 h.2
  rw [← hk] at hZ
  have hV:=or_mid s (q % 4503599627370496) k hqm (by omega)
  have hv:q % 4503599627370496+k * 4503599627370496 < 9218868437227405312:=by omega
  have hY:=andNot_mid s q (by omega)
  rw [← hx] at hY
  refine ldexp_sub a x _ _ _ (fP x) n e E _ w hO ho hpl hn ⟨e1,e2⟩ hq hA hE h.1 h.2 hY (by rw [hk2];exact hV) (fun W=>frombits5 _ W) (fun i w'=>?_) C1 C2 C3 hB
  have:=fmul_ok 4368491638549381120 (wrd s (q % 4503599627370496+k * 4503599627370496)) (by decide) (wrd_lt _ _ (by omega)) (mN_fin (by decide) (wrd_fin hv)) i w'
  rw [(mul_comm6 _ _).1,hZ] at this
  exact this
def lV (a:Nat) (n:Int):Nat:=if fK a = 4 then a else xV a n
theorem Ldexp_any (a:Nat) (n:Int) (w:World) (ha:a < 18446744073709551616) (hn:-5000≤n∧n≤5000) :
  Calls Tryz.prog 123 #[.float .f64 a,.int .i64 n] w fun r w'=>r = .returned (.float .f64 (lV a n))∧w = w':=by
 refine Ldexp_of a _ n w fun w'=>?_
 have C1:=fun w'=>isInf8_any a w' ha
 have C2:=fun w'=>isNaN8_any a w' ha
 unfold lV
 by_cases a4:fK a = 4
 ·rw [if_pos a4]
  rw [decide_eq_false (show ¬ fK a = 3 by omega)] at C1
  rw [decide_eq_true a4] at C2
  exact ldexp_odd a n false true _ w' (order_nan a 0 ha (by decide) (.inl a4)) (.inl rfl) (.inr ⟨rfl,rfl⟩) C1 C2
 rw [if_neg a4]
 unfold xV
 rw [if_neg a4]
 by_cases a3:fK a = 3
 ·rw [if_pos (Or.inl a3)]
  rw [decide_eq_true a3] at C1
  exact ldexp_odd a n true _ _ w' (order_0_sign a ha a4 (by omega)) (by cases fS a <;> simp) (.inl rfl) C1 C2
 by_cases a0:fK a = 0
 ·rw [if_pos (Or.inr a0)]
  have hz:fZ a = 0:=by
   have:=fZ_abs a
   rw [(fK_zero a).1 a0,rv_zero] at this
   omega
  exact ldexp_zero a n w' (by rw [show FloatKind.f64.format.order a 0 = Ieee.double.order a 0 from rfl,order_0 a ha a4,Int.compare_eq_eq.2 hz])
 ·rw [if_neg (by omega)]
  have fa:=fin_of a a3 a4
  obtain ⟨β,x1,x2,x3,x4⟩:=odd_mag a ha fa a0
  have e3:rnd (fD a).natAbs (fX a+n) = rnd (rv (fR a)) (n - 1074):=by
   rw [x2,rnd_scale];congr 1;omega
  rw [e3]
  exact ldexp_fin a n w' ha fa a0 hn
theorem canon_lV (a:Nat) (n:Int) (w:World) (ha:a < 18446744073709551616) :
  Calls Tryz.prog 129 #[.int .u64 (lV a n:Nat)] w fun r w'=>r = .returned (.int .u64 (xV a n:Nat))∧w = w':=by
 unfold lV
 by_cases a4:fK a = 4
 ·rw [if_pos a4]
  have:=canon_any a w ha
  rw [if_pos a4] at this
  rw [show xV a n = 9221120237041090560 by unfold xV;rw [if_pos a4]]
  exact this
 ·rw [if_neg a4]
  have:=canon_any (xV a n) w (xV_lt a n ha)
  have h:fK (xV a n) ≠ 4:=by
   unfold xV
   rw [if_neg a4]
   split
   ·exact a4
   ·exact wrd_kind _ _ (rnd_le _ _)
  rw [if_neg h] at this
  exact this
end Go.Proofs.YtlnphkioddknfaaGreatDoor
namespace Go.Proofs.YtlnphkioddknfaaGreatDoor
open Go.RowKit
def rest7 (N:Nat):Nat:=N - isq N * isq N
theorem next7 (N p:Nat) (hp:p < 4) :
  (4 * rest7 N+p < 4 * isq N+1→isq (4 * N+p) = 2 * isq N∧rest7 (4 * N+p) = 4 * rest7 N+p) ∧
  (¬ 4 * rest7 N+p < 4 * isq N+1→isq (4 * N+p) = 2 * isq N+1∧rest7 (4 * N+p) = 4 * rest7 N+p - (4 * isq N+1)):=by
 obtain ⟨g1,g2⟩:=isq_spec N
 have s1:=sq_succ (isq N)
 have s2:=sq_succ (2 * isq N)
 have s3:=sq_succ (2 * isq N+1)
 have q4:2 * isq N * (2 * isq N) = 4 * (isq N * isq N):=by rw [show (4:Nat) = 2 * 2 by decide];ac_rfl
 unfold rest7
 refine ⟨fun h=>?_,fun h=>?_⟩
 ·have e:isq (4 * N+p) = 2 * isq N:=isq_unique (by omega) (by omega)
  refine ⟨e,?_⟩
  rw [e]
  omega
 ·have e:isq (4 * N+p) = 2 * isq N+1:=isq_unique (by omega) (by omega)
  refine ⟨e,?_⟩
  rw [e]
  omega
theorem rest7_le (N:Nat):rest7 N≤2 * isq N:=by
 obtain ⟨g1,g2⟩:=isq_spec N
 have s1:=sq_succ (isq N)
 unfold rest7
 omega
theorem rest7_zero (N:Nat):rest7 N = 0 ↔ isq N * isq N = N:=by
 obtain ⟨g1,g2⟩:=isq_spec N
 unfold rest7
 omega
theorem isq_lt {N k:Nat} (h:N < k * k):isq N < k:=by
 obtain ⟨g1,g2⟩:=isq_spec N
 exact sq_lt_iff.1 (by omega)
def top7 (n i:Nat):Nat:=n / 4 ^ (32 - i)
theorem top7_zero (n:Nat) (h:n < 18446744073709551616):top7 n 0 = 0:=by
 unfold top7
 rw [show (4:Nat) ^ (32 - 0) = 18446744073709551616 by decide]
 omega
theorem top7_end (n:Nat):top7 n 32 = n:=by
 unfold top7
 simp
theorem top7_succ (n i:Nat) (hi:i < 32):top7 n (i+1) = 4 * top7 n i+n / 2 ^ (2 * (31 - i)) % 4:=by
 unfold top7
 have e:(4:Nat) ^ (32 - i) = 4 ^ (32 - (i+1)) * 4:=by rw [← Nat.pow_succ];congr 1;omega
 have e2:(2:Nat) ^ (2 * (31 - i)) = 4 ^ (32 - (i+1)):=by rw [Nat.pow_mul,show 32 - (i+1) = 31 - i by omega]
 rw [e,e2,← Nat.div_div_eq_div_mul]
 omega
theorem top7_lt (n i:Nat) (h:n < 18446744073709551616):top7 n i < 18446744073709551616:=by
 unfold top7
 exact Nat.lt_of_le_of_lt (Nat.div_le_self _ _) h
theorem isq_top7 (n i:Nat) (h:n < 18446744073709551616):isq (top7 n i) < 4294967296:=isq_lt (Nat.lt_of_lt_of_le (top7_lt n i h) (by decide))
theorem isq_low7 (n i:Nat) (h:n < 18446744073709551616) (hi:i≤22):isq (n * 4 ^ i) < 18014398509481984:=by
 refine isq_lt ?_
 have h1:(4:Nat) ^ i≤4 ^ 22:=Nat.pow_le_pow_right (by decide) hi
 rw [show (4:Nat) ^ 22 = 17592186044416 by decide] at h1
 have h2:n * 4 ^ i≤n * 17592186044416:=Nat.mul_le_mul_left _ h1
 omega
theorem low7_succ (n i:Nat):n * 4 ^ (i+1) = 4 * (n * 4 ^ i)+0:=by rw [Nat.pow_succ];ac_rfl
def nS (b:Nat):Nat:=(fD b).natAbs * 2 ^ (64 - bl (fD b).natAbs - ((dT b) % 2).toNat)
def nT (b:Nat):Int:=dT b+(dT b) % 2
theorem nS_facts (b:Nat) (hb:b < 18446744073709551616) (hf:fFin b = true) (h0:fK b ≠ 0) :
  nS b < 18446744073709551616∧4611686018427387904≤nS b:=by
 obtain ⟨x1,x2,x3,x4,x5,x6,x7,x8⟩:=dS_facts b hb hf h0
 obtain ⟨b1,b2,b3⟩:=bl_spec (fD b).natAbs (by omega)
 unfold nS
 have hp:=Nat.two_pow_pos (64 - bl (fD b).natAbs - ((dT b) % 2).toNat)
 have k1:=(Nat.mul_lt_mul_right hp).2 b3
 have k2:=Nat.mul_le_mul_right (2 ^ (64 - bl (fD b).natAbs - ((dT b) % 2).toNat)) b2
 rw [← Nat.pow_add] at k1 k2
 have k3:2 ^ (bl (fD b).natAbs+(64 - bl (fD b).natAbs - ((dT b) % 2).toNat))≤2 ^ 64:=Nat.pow_le_pow_right (by decide) (by omega)
 have k4:2 ^ 62≤2 ^ (bl (fD b).natAbs - 1+(64 - bl (fD b).natAbs - ((dT b) % 2).toNat)):=Nat.pow_le_pow_right (by decide) (by omega)
 rw [show (2:Nat) ^ 64 = 18446744073709551616 by decide] at k3
 rw [show (2:Nat) ^ 62 = 4611686018427387904 by decide] at k4
 exact ⟨Nat.lt_of_lt_of_le k1 k3,Nat.le_trans k4 k2⟩
theorem nS_root (a:Nat) (ha:a < 18446744073709551616) (fa:fFin a = true) (a0:fK a ≠ 0) :
  rnd (rS (nS a * 4 ^ 22)) (nT a / 2 - 55) = tV a∧rflag (oM (rS (nS a * 4 ^ 22):Nat)).natAbs (oE (rS (nS a * 4 ^ 22):Nat) (nT a / 2 - 55)) = tF a:=by
 obtain ⟨α,x1,x2,x3,x4⟩:=odd_mag a ha fa a0
 obtain ⟨y1,y2,y3,y4,y5,y6,y7,y8⟩:=dS_facts a ha fa a0
 obtain ⟨n1,n2⟩:=nS_facts a ha fa a0
 have hN:nS a * 4 ^ 22 = (fD a).natAbs * 2 ^ (64 - bl (fD a).natAbs - ((dT a) % 2).toNat+44):=by
  unfold nS
  rw [Nat.pow_add,Nat.mul_assoc]
 have hbig:9007199254740992≤isq (nS a * 4 ^ 22):=by
  refine big_sq ?_
  rw [show (2:Nat) ^ 106 = 4611686018427387904 * 4 ^ 22 by decide]
  exact Nat.mul_le_mul_right _ n2
 rw [hN] at hbig ⊢
 have hd:dT a = (bl (fD a).natAbs:Int)+fX a:=rfl
 have hn:nT a = dT a+dT a % 2:=rfl
 have:=root_any a (fD a).natAbs α (64 - bl (fD a).natAbs - ((dT a) % 2).toNat+44) (nT a / 2 - 54) a0 x2.symm (by omega) hbig
 rwa [show nT a / 2 - 54 - 1 = nT a / 2 - 55 by omega] at this
theorem rS_54 (n:Nat) (h:n < 18446744073709551616):rS (n * 4 ^ 22) < 36028797018963968:=by
 have:=isq_low7 n 22 h (by decide)
 unfold rS
 split <;> omega
end Go.Proofs.YtlnphkioddknfaaGreatDoor
namespace Go.Proofs.YtlnphkioddknfaaGreatDoor
open Go.RowKit
def BoxP (w:World) (b:Nat) (x y:Value):Prop:=w.heap[b]? = some (.cells #[x,y] 254 (0,0))
theorem BoxP.c0 {w:World} {b:Nat} {x y:Value} (h:BoxP w b x y):w.cell? ⟨b,0,none⟩ = some x:=by rw [cell_of_row w b 0 _ _ _ h];rfl
theorem BoxP.c1 {w:World} {b:Nat} {x y:Value} (h:BoxP w b x y):w.cell? ⟨b,1,none⟩ = some y:=by rw [cell_of_row w b 1 _ _ _ h];rfl
theorem BoxP.free {w:World} {b:Nat} {x y:Value} (h:BoxP w b x y) (j:Nat):w.frozen? ⟨b,j,none⟩ = false:=frozen_of_row w b j _ _ h
theorem BoxP.lt {w:World} {b:Nat} {x y:Value} (h:BoxP w b x y):b < w.heap.size:=(Array.getElem?_eq_some_iff.1 h).1
theorem BoxP.all {w w':World} {b:Nat} {x y:Value} (h:BoxP w b x y) (hb:Below w.heap.size w w'):BoxP w' b x y:=(hb.block b h.lt).trans h
theorem BoxP.new (w:World) (x y:Value):BoxP (w.alloc (.cells #[x,y] 254)) w.heap.size x y:=heap_alloc_new w _
theorem or_pair (s p:Nat) (hs:s < 144115188075855872) (hp:p < 4):bits BinOp.or IntKind.u64 ((s:Int) * 4) (p:Int) = ((4 * s+p:Nat):Int):=by
 have e:(s:Int) * 4 = ((s * 2 ^ 2:Nat):Int):=by omega
 rw [e,u64_or_nat (s * 2 ^ 2) p (by omega) (by omega),Nat.or_comm,or_above p s 2 (by omega)]
 congr 1
 omega
theorem or_one (x:Nat) (h:x < 144115188075855872):bits BinOp.or IntKind.u64 ((x:Int) * 2) 1 = ((2 * x+1:Nat):Int):=by
 have e:(x:Int) * 2 = ((x * 2 ^ 1:Nat):Int):=by omega
 rw [e]
 refine (u64_or_nat (x * 2 ^ 1) 1 (by omega) (by omega)).trans ?_
 rw [Nat.or_comm,or_above 1 x 1 (by omega)]
 congr 1
 omega
theorem BoxP.put {w:World} {b:Nat} {x y:Value} (h:BoxP w b x y) (u u':Value):BoxP ((w.setCell ⟨b,0,none⟩ u).setCell ⟨b,1,none⟩ u') b u u':=by
 have h1:=heap_setCell_same w b 0 _ _ u h
 have h2:=heap_setCell_same (w.setCell ⟨b,0,none⟩ u) b 1 _ _ u' h1
 unfold BoxP
 rw [h2]
 simp
theorem BoxP.oth {w:World} {b g:Nat} {x y:Value} (h:BoxP w b x y) (hne:b ≠ g) (u u':Value):BoxP ((w.setCell ⟨g,0,none⟩ u).setCell ⟨g,1,none⟩ u') b x y :=
 (Below.heap_setCell _ ⟨g,1,none⟩ u' b hne).trans ((Below.heap_setCell w ⟨g,0,none⟩ u b hne).trans h)
theorem below_putP {B g:Nat} {a w:World} (h:Below B a w) (hg:B≤g) (u u':Value):Below B a ((w.setCell ⟨g,0,none⟩ u).setCell ⟨g,1,none⟩ u'):=(h.setCell hg u).setCell hg u'
theorem pnext_n (r s p x y z:Nat) (w:World) (hr:r < 18014398509481984) (hs:s≤2 * r) (hc:(x:Int) < (y:Int))
  (o1:bits BinOp.or IntKind.u64 ((s:Int) * 4) (p:Int) = (x:Int)) (o2:bits BinOp.or IntKind.u64 ((r:Int) * 2 * 2) 1 = (y:Int)) (hz:(r:Int) * 2 = (z:Int)) :
  Calls Tryz.prog 289 #[.agg #[.int .u64 r,.int .u64 s],.int .u64 p] w fun e w'=>e = .returned (.agg #[.int .u64 (z:Nat),.int .u64 (x:Nat)])∧Below w.heap.size w w':=by
 have hc':=decide_eq_true hc
 have HZ:=hide hz
 clear hz
 go_enter Tryz.func289,Tryz.ntmps289
 go_wp2
 go_quiet (fail)
 go_wp2
 rw [uH HZ]
 refine bodyPost_ret (v:=.agg #[.int .u64 (z:Nat),.int .u64 (x:Nat)]) (by simp [results,Tryz.results289,go_sem]) rfl ⟨rfl,?_⟩
 exact (((below_drewN (((Below.refl _ _).alloc (Nat.le_refl _) _).alloc (by simp) _) _).setCell (by simp) _).setCell (by simp) _)
theorem pnext_m (r s p x y z d:Nat) (w:World) (hr:r < 18014398509481984) (hs:s≤2 * r) (hc:¬ (x:Int) < (y:Int)) (hd:(x:Int) - (y:Int) = (d:Int))
  (o1:bits BinOp.or IntKind.u64 ((s:Int) * 4) (p:Int) = (x:Int)) (o2:bits BinOp.or IntKind.u64 ((r:Int) * 2 * 2) 1 = (y:Int)) (o3:bits BinOp.or IntKind.u64 ((r:Int) * 2) 1 = (z:Int)) (hx:x < 18446744073709551616) :
  Calls Tryz.prog 289 #[.agg #[.int .u64 r,.int .u64 s],.int .u64 p] w fun e w'=>e = .returned (.agg #[.int .u64 (z:Nat),.int .u64 (d:Nat)])∧Below w.heap.size w w':=by
 have hc':=decide_eq_false hc
 have HD:=hide hd
 clear hd
 go_enter Tryz.func289,Tryz.ntmps289
 go_wp2
 go_quiet (fail)
 go_wp2
 rw [uH HD]
 refine bodyPost_ret (v:=.agg #[.int .u64 (z:Nat),.int .u64 (d:Nat)]) (by simp [results,Tryz.results289,go_sem]) rfl ⟨rfl,?_⟩
 exact (((below_drewN (((Below.refl _ _).alloc (Nat.le_refl _) _).alloc (by simp) _) _).setCell (by simp) _).setCell (by simp) _)
end Go.Proofs.YtlnphkioddknfaaGreatDoor
