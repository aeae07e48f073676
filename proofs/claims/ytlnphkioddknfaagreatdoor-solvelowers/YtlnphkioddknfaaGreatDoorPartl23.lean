/- Part 23 of the texts. -/
import Derived.Test.YtlnphkioddknfaaGreatDoorPartl20
import Derived.Test.YtlnphkioddknfaaGreatDoorPartl18
import Derived.Test.YtlnphkioddknfaaGreatDoorPartl16
import Derived.Test.YtlnphkioddknfaaGreatDoorPartl22
import Derived.Laws.Cover2
import Derived.Laws.Externs
import Derived.Test.YtlnphkioddknfaaGreatDoorPartl04
import Derived.Laws.FloatArith
import Derived.Deep.RegionHeld3
set_option maxHeartbeats 8000000
set_option maxRecDepth 20000
namespace Go.Proofs.YtlnphkioddknfaaGreatDoor
open Go.RowKit
def eN (b:Nat):Int:=if fFin b = true then 0 else if fS b = true then -1 else 1
theorem ends_of (b:Nat) (f s:Bool) (w:World)
  (C1:∀ w',Calls Tryz.prog 100 #[.int .u64 b] w' fun r w''=>r = .returned (.bool f)∧w' = w'')
  (C2:∀ w',Calls Tryz.prog 120 #[.int .u64 b] w' fun r w''=>r = .returned (.bool s)∧w' = w'') :
  Calls Tryz.prog 122 #[.int .u64 b] w fun e w'=>e = .returned (.int .i64 (if f = true then 0 else if s = true then -1 else 1))∧w = w':=by
 have K1:=hide C1;have K2:=hide C2
 clear C1 C2
 cases f
 ·cases s
  ·go_enter Tryz.func122,Tryz.ntmps122
   go_wp2_with fail
   refine (uH K1 _).mono ?_
   rintro e w1 ⟨rfl,rfl⟩
   go_wp2_with fail
   refine (uH K2 _).mono ?_
   rintro e w1 ⟨rfl,rfl⟩
   go_wp2
   go_ret
   exact ⟨rfl,rfl⟩
  ·go_enter Tryz.func122,Tryz.ntmps122
   go_wp2_with fail
   refine (uH K1 _).mono ?_
   rintro e w1 ⟨rfl,rfl⟩
   go_wp2_with fail
   refine (uH K2 _).mono ?_
   rintro e w1 ⟨rfl,rfl⟩
   go_wp2
   go_ret
   exact ⟨rfl,rfl⟩
 ·go_enter Tryz.func122,Tryz.ntmps122
  go_wp2_with fail
  refine (uH K1 _).mono ?_
  rintro e w1 ⟨rfl,rfl⟩
  go_wp2
  go_ret
  exact ⟨rfl,rfl⟩
theorem ends_any (b:Nat) (w:World) (hb:b < 18446744073709551616) :
  Calls Tryz.prog 122 #[.int .u64 b] w fun e w'=>e = .returned (.int .i64 (eN b))∧w = w' :=
 ends_of b (fFin b) (fS b) w (fun w'=>rfinite_any b w' hb) (fun w'=>rneg4_any b w' hb)
theorem rorder_n1 (a b:Nat) (w:World)
  (C1:∀ w',Calls Tryz.prog 44 #[.int .u64 a] w' fun r w''=>r = .returned (.int .i64 4)∧w' = w'') :
  Calls Tryz.prog 68 #[.int .u64 a,.int .u64 b] w fun r w'=>r = .returned (.tuple #[.int .i64 0,.bool false])∧Below w.heap.size w w':=by
 have K1:=hide C1
 clear C1
 go_enter Tryz.func68,Tryz.ntmps68
 go_wp2_with fail
 refine (uH K1 _).mono ?_
 rintro e w1 ⟨rfl,rfl⟩
 clear K1
 go_wp2
 exact bodyPost_ret (v:=.tuple #[.int .i64 0,.bool false]) (by simp [results,Tryz.results68,go_sem]) rfl ⟨rfl,Below.refl _ _⟩
theorem rorder_n2 (a b:Nat) (ka:Int) (w:World) (h4:(ka == 4) = false)
  (C1:∀ w',Calls Tryz.prog 44 #[.int .u64 a] w' fun r w''=>r = .returned (.int .i64 ka)∧w' = w'')
  (C2:∀ w',Calls Tryz.prog 44 #[.int .u64 b] w' fun r w''=>r = .returned (.int .i64 4)∧w' = w'') :
  Calls Tryz.prog 68 #[.int .u64 a,.int .u64 b] w fun r w'=>r = .returned (.tuple #[.int .i64 0,.bool false])∧Below w.heap.size w w':=by
 have K1:=hide C1;have K2:=hide C2
 clear C1 C2
 go_enter Tryz.func68,Tryz.ntmps68
 go_wp2_with fail
 refine (uH K1 _).mono ?_
 rintro e w1 ⟨rfl,rfl⟩
 clear K1
 go_wp2_with fail
 refine (uH K2 _).mono ?_
 rintro e w1 ⟨rfl,rfl⟩
 clear K2
 go_wp2
 exact bodyPost_ret (v:=.tuple #[.int .i64 0,.bool false]) (by simp [results,Tryz.results68,go_sem]) rfl ⟨rfl,Below.refl _ _⟩
theorem rorder_i (a b:Nat) (ka kb x y o:Int) (w:World) (h4:(ka == 4) = false) (g4:(kb == 4) = false)
  (hw:(x = 0∧y = -1∧o = 1) ∨ (x = 0∧y = 1∧o = -1) ∨ (x = -1∧y = 0∧o = -1) ∨ (x = 1∧y = 0∧o = 1) ∨ (x = -1∧y = -1∧o = 0) ∨ (x = 1∧y = 1∧o = 0) ∨ (x = -1∧y = 1∧o = -1) ∨ (x = 1∧y = -1∧o = 1))
  (C1:∀ w',Calls Tryz.prog 44 #[.int .u64 a] w' fun r w''=>r = .returned (.int .i64 ka)∧w' = w'')
  (C2:∀ w',Calls Tryz.prog 44 #[.int .u64 b] w' fun r w''=>r = .returned (.int .i64 kb)∧w' = w'')
  (C3:∀ w',Calls Tryz.prog 122 #[.int .u64 a] w' fun r w''=>r = .returned (.int .i64 x)∧w' = w'')
  (C4:∀ w',Calls Tryz.prog 122 #[.int .u64 b] w' fun r w''=>r = .returned (.int .i64 y)∧w' = w'') :
  Calls Tryz.prog 68 #[.int .u64 a,.int .u64 b] w fun r w'=>r = .returned (.tuple #[.int .i64 o,.bool true])∧Below w.heap.size w w':=by
 have K1:=hide C1;have K2:=hide C2;have K3:=hide C3;have K4:=hide C4
 clear C1 C2 C3 C4
 rcases hw with ⟨rfl,rfl,rfl⟩ | ⟨rfl,rfl,rfl⟩ | ⟨rfl,rfl,rfl⟩ | ⟨rfl,rfl,rfl⟩ | ⟨rfl,rfl,rfl⟩ | ⟨rfl,rfl,rfl⟩ | ⟨rfl,rfl,rfl⟩ | ⟨rfl,rfl,rfl⟩
 all_goals
  go_enter Tryz.func68,Tryz.ntmps68
  go_wp2_with fail
  refine (uH K1 _).mono ?_
  rintro e w1 ⟨rfl,rfl⟩
  clear K1
  go_wp2_with fail
  refine (uH K2 _).mono ?_
  rintro e w1 ⟨rfl,rfl⟩
  clear K2
  go_wp2_with fail
  refine (uH K3 _).mono ?_
  rintro e w1 ⟨rfl,rfl⟩
  clear K3
  go_wp2_with fail
  refine (uH K4 _).mono ?_
  rintro e w1 ⟨rfl,rfl⟩
  clear K4
  go_wp2
  refine bodyPost_ret (v:=.tuple #[.int .i64 _,.bool true]) (by simp [results,Tryz.results68,go_sem];try rfl) rfl ⟨rfl,Below.refl _ _⟩
theorem rorder_f (a b:Nat) (ka kb z1 z2 X1 X2 o:Int) (w:World) (h4:(ka == 4) = false) (g4:(kb == 4) = false)
  (C1:∀ w',Calls Tryz.prog 44 #[.int .u64 a] w' fun r w''=>r = .returned (.int .i64 ka)∧w' = w'')
  (C2:∀ w',Calls Tryz.prog 44 #[.int .u64 b] w' fun r w''=>r = .returned (.int .i64 kb)∧w' = w'')
  (C3:∀ w',Calls Tryz.prog 122 #[.int .u64 a] w' fun r w''=>r = .returned (.int .i64 0)∧w' = w'')
  (C4:∀ w',Calls Tryz.prog 122 #[.int .u64 b] w' fun r w''=>r = .returned (.int .i64 0)∧w' = w'')
  (C5:∀ w',Calls Tryz.prog 77 #[.int .u64 a] w' fun r w''=>∃ u,r = .returned u∧IsDy w'' u z1 X1∧Below w'.heap.size w' w'')
  (C6:∀ w',Calls Tryz.prog 77 #[.int .u64 b] w' fun r w''=>∃ u,r = .returned u∧IsDy w'' u z2 X2∧Below w'.heap.size w' w'')
  (C7:∀ w' v u,IsDy w' v z1 X1→IsDy w' u z2 X2→Calls Tryz.prog 90 #[v,u] w' fun r w''=>r = .returned (.int .i64 o)∧Below w'.heap.size w' w'') :
  Calls Tryz.prog 68 #[.int .u64 a,.int .u64 b] w fun r w'=>r = .returned (.tuple #[.int .i64 o,.bool true])∧Below w.heap.size w w':=by
 have K1:=hide C1;have K2:=hide C2;have K3:=hide C3;have K4:=hide C4;have K5:=hide C5;have K6:=hide C6;have K7:=hide C7
 clear C1 C2 C3 C4 C5 C6 C7
 go_enter Tryz.func68,Tryz.ntmps68
 go_wp2_with fail
 refine (uH K1 _).mono ?_
 rintro e w1 ⟨rfl,rfl⟩
 clear K1
 go_wp2_with fail
 refine (uH K2 _).mono ?_
 rintro e w1 ⟨rfl,rfl⟩
 clear K2
 go_wp2_with fail
 refine (uH K3 _).mono ?_
 rintro e w1 ⟨rfl,rfl⟩
 clear K3
 go_wp2_with fail
 refine (uH K4 _).mono ?_
 rintro e w1 ⟨rfl,rfl⟩
 clear K4
 go_wp2_with fail
 refine (uH K5 _).mono ?_
 rintro e w1 ⟨v,rfl,hv,hb1⟩
 obtain ⟨n1,a1,c1,L1,rfl,i1⟩:=hv
 have HV:=hide (show IsDy w1 (.agg #[.bool n1,.slice a1 L1.length c1,.int .i64 X1]) z1 X1 from ⟨n1,a1,c1,L1,rfl,i1⟩)
 have B1:=hide hb1
 clear i1 hb1 K5
 go_wp2_with fail
 refine (uH K6 _).mono ?_
 rintro e w2 ⟨v,rfl,hv,hb1⟩
 obtain ⟨n2,a2,c2,L2,rfl,i2⟩:=hv
 have HU:=hide (show IsDy w2 (.agg #[.bool n2,.slice a2 L2.length c2,.int .i64 X2]) z2 X2 from ⟨n2,a2,c2,L2,rfl,i2⟩)
 have HV2:=hide ((uH HV).below hb1)
 have B2:=hide ((uH B1).trans (hb1.mono (uH B1).size))
 clear i2 hb1 K6 B1 HV
 go_wp2_with fail
 refine (uH K7 _ _ _ (uH HV2) (uH HU)).mono ?_
 rintro e w3 ⟨rfl,hb1⟩
 have B3:=hide ((uH B2).trans (hb1.mono (uH B2).size))
 clear hb1 K7 B2
 go_wp2
 exact bodyPost_ret (v:=.tuple #[.int .i64 o,.bool true]) (by simp [results,Tryz.results68,go_sem]) rfl ⟨rfl,uH B3⟩
theorem eN_fin {b:Nat} (h:fFin b = true):eN b = 0:=by unfold eN;rw [if_pos h]
theorem eN_inf {b:Nat} (h:fK b = 3):(eN b = -1∧fZ b = -((2 ^ 2098:Nat):Int)) ∨ (eN b = 1∧fZ b = ((2 ^ 2098:Nat):Int)):=by
 have hf:fFin b = false:=by
  rcases fK_cases b with h1 | h1
  ·exact h1.1
  ·omega
 have hr:=(fK_rungs b).2.1.1 h
 unfold eN fZ pv
 rw [hr,rv_inf,if_neg (by rw [hf];decide)]
 cases fS b
 ·exact .inr ⟨rfl,rfl⟩
 ·exact .inl ⟨rfl,rfl⟩
theorem rorder_any (a b:Nat) (w:World) (ha:a < 18446744073709551616) (hb:b < 18446744073709551616) :
  Calls Tryz.prog 68 #[.int .u64 a,.int .u64 b] w fun r w'=>r = .returned (.tuple #[.int .i64 (cO a b),.bool (cB a b)])∧Below w.heap.size w w':=by
 have C1:=fun w'=>rkind_any a w' ha
 have C2:=fun w'=>rkind_any b w' hb
 have C3:=fun w'=>ends_any a w' ha
 have C4:=fun w'=>ends_any b w' hb
 unfold cO cB
 by_cases a4:fK a = 4
 ·rw [if_pos (Or.inl a4),if_pos (Or.inl a4)]
  rw [a4] at C1
  exact rorder_n1 a b w C1
 by_cases b4:fK b = 4
 ·rw [if_pos (Or.inr b4),if_pos (Or.inr b4)]
  rw [b4] at C2
  exact rorder_n2 a b _ w (by simp [a4]) C1 C2
 have h:¬ (fK a = 4 ∨ fK b = 4):=fun h=>h.elim a4 b4
 rw [if_neg h,if_neg h]
 have ka:(fK a == 4) = false:=by simp [a4]
 have kb:(fK b == 4) = false:=by simp [b4]
 have hP:(0:Int) < ((2 ^ 2098:Nat):Int):=Int.natCast_pos.2 (Nat.two_pow_pos 2098)
 by_cases a3:fK a = 3
 ·have za:=eN_inf a3
  by_cases b3:fK b = 3
  ·have zb:=eN_inf b3
   rcases za with ⟨x1,x2⟩ | ⟨x1,x2⟩ <;> rcases zb with ⟨y1,y2⟩ | ⟨y1,y2⟩ <;> rw [x1] at C3 <;> rw [y1] at C4 <;> rw [x2,y2] <;> generalize ((2 ^ 2098:Nat):Int) = P at *
   ·rw [cmpI8_eq rfl];exact rorder_i a b _ _ _ _ _ w ka kb (by decide) C1 C2 C3 C4
   ·rw [cmpI8_lt (by omega)];exact rorder_i a b _ _ _ _ _ w ka kb (by decide) C1 C2 C3 C4
   ·rw [cmpI8_gt (by omega)];exact rorder_i a b _ _ _ _ _ w ka kb (by decide) C1 C2 C3 C4
   ·rw [cmpI8_eq rfl];exact rorder_i a b _ _ _ _ _ w ka kb (by decide) C1 C2 C3 C4
  ·have fb:=fin_of b b3 b4
   have l:=fZ_lt b fb
   rw [eN_fin fb] at C4
   rcases za with ⟨x1,x2⟩ | ⟨x1,x2⟩ <;> rw [x1] at C3 <;> rw [x2] <;> generalize (2 ^ 2098:Nat) = P at *
   ·rw [cmpI8_lt (by omega)];exact rorder_i a b _ _ _ _ _ w ka kb (by decide) C1 C2 C3 C4
   ·rw [cmpI8_gt (by omega)];exact rorder_i a b _ _ _ _ _ w ka kb (by decide) C1 C2 C3 C4
 ·have fa:=fin_of a a3 a4
  have la:=fZ_lt a fa
  rw [eN_fin fa] at C3
  by_cases b3:fK b = 3
  ·have zb:=eN_inf b3
   rcases zb with ⟨y1,y2⟩ | ⟨y1,y2⟩ <;> rw [y1] at C4 <;> rw [y2] <;> generalize (2 ^ 2098:Nat) = P at *
   ·rw [cmpI8_gt (by omega)];exact rorder_i a b _ _ _ _ _ w ka kb (by decide) C1 C2 C3 C4
   ·rw [cmpI8_lt (by omega)];exact rorder_i a b _ _ _ _ _ w ka kb (by decide) C1 C2 C3 C4
  ·have fb:=fin_of b b3 b4
   rw [eN_fin fb] at C4
   clear la
   obtain ⟨d1,d2⟩:=fZ_level a ha fa
   obtain ⟨d3,d4⟩:=fZ_level b hb fb
   exact rorder_f a b _ _ (fD a) (fD b) (fX a) (fX b) _ w ka kb C1 C2 C3 C4 (fun w'=>rvalue_any a w' ha) (fun w'=>rvalue_any b w' hb)
    (fun w' v u hv hu=>rcmpN (W:=2099) (lo:=-1074) (z1:=fZ a) (z2:=fZ b) (by rw [d1,d2];exact hv) (by rw [d3,d4];exact hu) (fZ_Lvl a fa) (fZ_Lvl b fb))
theorem r8abs_any (a:Nat) (w:World) (ha:a < 18446744073709551616) :
  Calls Tryz.prog 67 #[.int .u64 a] w fun e w'=>e = .returned (.int .u64 (fR a:Nat))∧w = w':=by
 have K1:=hide (fun w'=>rneg4_any a w' ha)
 have K2:=hide (fun w'=>rminus4_any a w' ha)
 cases hs:fS a
 ·rw [hs] at K1
  rw [abs_plus a hs ha]
  clear hs ha K2
  go_enter Tryz.func67,Tryz.ntmps67
  go_wp2_with fail
  refine (uH K1 _).mono ?_
  rintro e w1 ⟨rfl,rfl⟩
  clear K1
  go_wp2
  go_ret
  exact ⟨rfl,rfl⟩
 ·rw [hs] at K1
  rw [abs_minus a hs ha]
  clear hs ha
  generalize fN a = q at *
  go_enter Tryz.func67,Tryz.ntmps67
  go_wp2_with fail
  refine (uH K1 _).mono ?_
  rintro e w1 ⟨rfl,rfl⟩
  clear K1
  go_wp2_with fail
  refine (uH K2 _).mono ?_
  rintro e w2 ⟨rfl,rfl⟩
  clear K2
  go_wp2
  go_ret
  exact ⟨rfl,rfl⟩
end Go.Proofs.YtlnphkioddknfaaGreatDoor
namespace Go.Proofs.YtlnphkioddknfaaGreatDoor
open Go.RowKit
theorem frombits5 (R:Nat) (W:World):(callFunc 167 #[.int .u64 R]).run Tryz.prog W = .ok (.value (.float .f64 R)) W:=by
 rw [run_callFunc_extern (e:=Extern.MathFloatBits.float64frombits) Tryz.func167 (by kernel_rfl) (by kernel_rfl) (by kernel_rfl) (by kernel_rfl)]
 show ((pure (.float .f64 ((R:Int).toNat)):Sem Value).run Tryz.prog W).andThen (fun v w'=>.ok (Next.value v) w') = _
 simp
end Go.Proofs.YtlnphkioddknfaaGreatDoor
namespace Go.Proofs.YtlnphkioddknfaaGreatDoor
open Go.RowKit
def fres (o:Option Nat) (x y:Nat) (w:World):Nat :=
 match o with
 | some r=>r
 | none=>(Question.nanBits .f64 x y).cut (w.tape w.drawn (.nanBits .f64 x y))
def fwld (o:Option Nat) (w:World):World :=
 match o with
 | some _=>w
 | none=>{ w with drawn:=w.drawn+1 }
theorem fsub_run (t:TypeId) (x y:Nat) (w:World):(binOp .sub t (.float .f64 x) (.float .f64 y)).run Tryz.prog w = .ok (.float .f64 (fres (Ieee.double.sub x y) x y w)) (fwld (Ieee.double.sub x y) w):=by
 have hf:FloatKind.f64.format = Ieee.double:=rfl
 cases h:Ieee.double.sub x y with
 | some r=>exact run_float_arith w .sub t .f64 x y r (by unfold floatBits;rw [hf];exact h)
 | none =>
  simp only [binOp,Op.floatArith,hf,h]
  rfl
theorem below_fwld (o:Option Nat) (w:World):Below w.heap.size w (fwld o w):=by
 cases o
 ·exact (Below.refl _ _).drew
 ·exact Below.refl _ _
theorem fres_none (x y:Nat) (w:World):fres none x y w < 18446744073709551616∧fK (fres none x y w) = 4:=by
 have h:fres none x y w = (w.tape w.drawn (.nanBits .f64 x y) % 2) * 9223372036854775808+9218868437227405312+1+(w.tape w.drawn (.nanBits .f64 x y) / 2) % 4503599627370495:=rfl
 rw [h]
 clear h
 generalize w.tape w.drawn (.nanBits .f64 x y) = t
 have h1:=Nat.mod_lt t (show 0 < 2 by decide)
 have h2:=Nat.mod_lt (t / 2) (show 0 < 4503599627370495 by decide)
 generalize t / 2 % 4503599627370495 = u at *
 generalize t % 2 = v at *
 refine ⟨by omega,(fK_rungs _).1.2 ?_⟩
 unfold fR
 obtain rfl | rfl:v = 0 ∨ v = 1:=by omega
 ·omega
 ·omega
theorem tobits5 (R:Nat) (W:World):(callFunc 130 #[.float .f64 R]).run Tryz.prog W = .ok (.value (.int .u64 R)) W:=by
 rw [run_callFunc_extern (e:=Extern.MathFloatBits.float64bits) Tryz.func130 (by kernel_rfl) (by kernel_rfl) (by kernel_rfl) (by kernel_rfl)]
 show ((pure (.int .u64 (R:Int)):Sem Value).run Tryz.prog W).andThen (fun v w'=>.ok (Next.value v) w') = _
 simp
theorem canon_any (b:Nat) (w:World) (h:b < 18446744073709551616) :
  Calls Tryz.prog 129 #[.int .u64 b] w fun r w'=>r = .returned (.int .u64 ((if fK b = 4 then 9221120237041090560 else b:Nat):Int))∧w = w':=by
 have K:=hide (fun w'=>rkind_any b w' h)
 have hw:IntKind.u64.wrap (b:Int) = (b:Int):=by simp only [IntKind.wrap_u64];omega
 by_cases h4:fK b = 4
 ·rw [if_pos h4]
  rw [h4] at K
  clear h4 h
  go_enter Tryz.func129,Tryz.ntmps129
  go_wp2_with fail
  refine (uH K _).mono ?_
  rintro e w1 ⟨rfl,rfl⟩
  go_wp2
  go_ret
  exact ⟨rfl,rfl⟩
 ·rw [if_neg h4]
  have hk:(fK b == 4) = false:=by simp [h4]
  generalize fK b = k at *
  clear h4 h
  go_enter Tryz.func129,Tryz.ntmps129
  go_wp2_with fail
  refine (uH K _).mono ?_
  rintro e w1 ⟨rfl,rfl⟩
  go_wp2
  go_ret
  exact ⟨rfl,rfl⟩
theorem canon_add (a b:Nat) (w w':World) (ha:a < 18446744073709551616) (hb:b < 18446744073709551616) :
  Calls Tryz.prog 129 #[.int .u64 (fres (Ieee.double.add a b) a b w:Nat)] w' fun r w''=>r = .returned (.int .u64 (aV a b:Nat))∧w' = w'':=by
 cases h:aN a b with
 | true =>
  obtain ⟨h1,h2⟩:=fadd_none a b ha hb h
  rw [h1,h2]
  obtain ⟨h3,h4⟩:=fres_none a b w
  have:=canon_any _ w' h3
  rw [if_pos h4] at this
  exact this
 | false =>
  rw [fadd_some a b ha hb h]
  have:=canon_any (aV a b) w' (aV_lt a b ha hb)
  by_cases h4:fK (aV a b) = 4
  ·exfalso
   have h':=of_decide_eq_false h
   have n4:¬ (fK a = 4 ∨ fK b = 4):=fun e=>h' (Or.inl e)
   unfold aV at h4
   rw [if_neg n4] at h4
   by_cases a3:fK a = 3
   ·rw [if_pos a3,if_neg (fun h=>h' (Or.inr ⟨a3,h.1,h.2⟩))] at h4
    omega
   ·rw [if_neg a3] at h4
    by_cases b3:fK b = 3
    ·rw [if_pos b3] at h4;omega
    ·rw [if_neg b3] at h4
     have hr:=(aV_fin a b (fin_of a a3 (by omega)) (fin_of b b3 (by omega))).1
     have hle:=rnd_le (aZ a b).natAbs (-1074)
     have e:=(add_f a b a3 (by omega) b3 (by omega)).1
     rw [← e] at h4
     have:=(fK_rungs _).1.1 h4
     omega
  ·rw [if_neg h4] at this
   exact this
end Go.Proofs.YtlnphkioddknfaaGreatDoor
namespace Go.Proofs.YtlnphkioddknfaaGreatDoor
open Go.RowKit
theorem quotient_ways (x y S:Nat) (Q R:Nat→Nat) (w:World) (hy:y < 9007199254740992) (h0:Q 0 = 0∧R 0 = x)
  (hs:∀ i,Q (i+1) = 2 * Q i+(if y≤R i then 1 else 0)∧R (i+1) = 2 * (R i - (if y≤R i then y else 0)))
  (hr:∀ i,R i < 2 * y) (hq:∀ i,i < 55→Q i < 18014398509481984) (h5:Q 55 < 36028797018963968) (he:S = 2 * Q 55+(if 0 < R 55 then 1 else 0)) :
  Calls Tryz.prog 248 #[.int .i64 x,.int .i64 y] w fun r w'=>r = .returned (.int .i64 (S:Nat))∧w = w':=by
 have H0:=hide h0;have HS:=hide hs;have HR:=hide hr;have HQ:=hide hq;have HE:=hide he
 clear h0 hs hr hq he
 go_enter Tryz.func248,Tryz.ntmps248
 go_wp2
 go_loop [0,5,6] (fun p q i=>∃ k:Nat,k≤55∧i = .int .i64 k∧p = .int .i64 (R k:Nat)∧q = .int .i64 (Q k:Nat)) (fun _ _ i=>55 - (intOf i).toNat)
 case atStart=>exact ⟨0,by omega,rfl,by rw [(uH H0).2],by rw [(uH H0).1];rfl⟩
 case round =>
  obtain ⟨k,hk,rfl,rfl,rfl⟩:=hrel
  by_cases hlt:k < 55
  ·have s1:=uH HS k
   have r1:=uH HR k
   have q3:=uH HQ k hlt
   obtain ⟨s2,s3⟩:=s1
   have N1:=hide s2;have N2:=hide s3
   clear s2 s3 H0 HS HR HQ HE
   generalize hr:R k = r at *
   generalize hq:Q k = q at *
   by_cases c:y≤r
   ·have c':(r:Int) ≥ (y:Int):=by omega
    have M1:=hide (show Q (k+1) = 2 * q+1 by rw [uH N1,if_pos c])
    have M2:=hide (show R (k+1) = 2 * (r - y) by rw [uH N2,if_pos c])
    clear N1 N2
    go_wp2
    go_round
    case rel=>exact ⟨k+1,by omega,by go_num,int_eq (by rw [uH M2];omega),int_eq (by rw [uH M1];omega)⟩
    case measure=>simp [intOf];omega
   ·have c':¬ (r:Int) ≥ (y:Int):=by omega
    have M1:=hide (show Q (k+1) = 2 * q by rw [uH N1,if_neg c];rfl)
    have M2:=hide (show R (k+1) = 2 * r by rw [uH N2,if_neg c];rfl)
    clear N1 N2
    go_wp2
    go_round
    case rel=>exact ⟨k+1,by omega,by go_num,int_eq (by rw [uH M2];omega),int_eq (by rw [uH M1];omega)⟩
    case measure=>simp [intOf];omega
  ·have hk5:k = 55:=by omega
   subst hk5
   have r1:=uH HR 55
   clear H0 HS HR HQ
   generalize R 55 = r at *
   generalize Q 55 = q at *
   by_cases c:0 < r
   ·have M:=hide (show S = 2 * q+1 by rw [uH HE,if_pos c])
    have c':(r:Int) > 0:=by omega
    clear HE
    go_wp2
    go_ret
    exact ⟨ret_int (by rw [uH M];omega),rfl⟩
   ·have M:=hide (show S = 2 * q by rw [uH HE,if_neg c];rfl)
    have c':¬ (r:Int) > 0:=by omega
    clear HE
    go_wp2
    go_ret
    exact ⟨ret_int (by rw [uH M];omega),rfl⟩
theorem lQ_54 (x y i:Nat) (h2:x < 2 * y) (hi:i < 55):lQ x y i < 18014398509481984:=by
 have q1:=lQ_lt x y i h2
 have q2:(2:Nat) ^ i≤2 ^ 54:=Nat.pow_le_pow_right (by decide) (by omega)
 rw [show (2:Nat) ^ 54 = 18014398509481984 by decide] at q2
 exact Nat.lt_of_lt_of_le q1 q2
theorem lQ_55 (x y:Nat) (h2:x < 2 * y):lQ x y 55 < 36028797018963968:=by
 have q1:=lQ_lt x y 55 h2
 rwa [show (2:Nat) ^ 55 = 36028797018963968 by decide] at q1
theorem quotient_any (x y:Nat) (w:World) (hy:y < 9007199254740992) (h2:x < 2 * y) :
  Calls Tryz.prog 248 #[.int .i64 x,.int .i64 y] w fun r w'=>r = .returned (.int .i64 (stk (x * 2 ^ 54) y:Nat))∧w = w' :=
 quotient_ways x y _ (lQ x y) (lR x y) w hy (l_zero x y h2) (fun i=>l_succ x y i (by omega)) (fun i=>lR_lt x y i (by omega)) (fun i hi=>lQ_54 x y i h2 hi) (lQ_55 x y h2) (l_end x y)
end Go.Proofs.YtlnphkioddknfaaGreatDoor
namespace Go.Proofs.YtlnphkioddknfaaGreatDoor
open Go.RowKit
theorem sizeOf_ways (b:Nat) (z1 X1 z2 ln tp:Int) (w:World) (hln:1≤ln∧ln≤53)
  (C1:∀ w',Below w.heap.size w w'→Calls Tryz.prog 203 #[.int .u64 b] w' fun r w''=>DyR w'' r 0 z1 X1∧Below w'.heap.size w' w'')
  (C2:∀ w' n a l c,IsDy w' (.agg #[.bool n,.slice a l c,.int .i64 X1]) z1 X1→Calls Tryz.prog 266 #[.agg #[.bool false,.slice a l c]] w' fun r w''=>r = .returned (.int .i64 ln)∧Below w'.heap.size w' w'')
  (C3:∀ w' n a l c,IsDy w' (.agg #[.bool n,.slice a l c,.int .i64 X1]) z1 X1→Calls Tryz.prog 252 #[.agg #[.bool false,.slice a l c],.int .i64 (53 - ln)] w' fun r w''=>∃ v,r = .returned (.tuple #[v,.int .i64 0])∧IsNum w'.heap.size w'' v z2∧Below w'.heap.size w' w'')
  (C4:∀ B w' v,IsNum B w' v z2→Calls Tryz.prog 267 #[v] w' fun r w''=>r = .returned (.tuple #[.int .i64 z2,.int .i64 0])∧Below w'.heap.size w' w'')
  (C5:∀ w' n a l c,IsDy w' (.agg #[.bool n,.slice a l c,.int .i64 X1]) z1 X1→Calls Tryz.prog 254 #[.agg #[.bool false,.slice a l c,.int .i64 X1]] w' fun r w''=>r = .returned (.int .i64 tp)∧Below w'.heap.size w' w'') :
  Calls Tryz.prog 247 #[.int .u64 b] w fun r w'=>r = .returned (.tuple #[.int .i64 z2,.int .i64 tp])∧Below w.heap.size w w':=by
 have K1:=hide C1;have K2:=hide C2;have K3:=hide C3;have K4:=hide C4;have K5:=hide C5
 clear C1 C2 C3 C4 C5
 go_enter Tryz.func247,Tryz.ntmps247
 go_wp2_with fail
 refine (uH K1 _ (Below.refl _ _)).mono ?_
 rintro e w1 ⟨⟨v,rfl,hv⟩,hb1⟩
 obtain ⟨n1,a1,c1,L1,rfl,i1⟩:=hv
 have x:=Box3.new w1 (.bool n1) (.slice a1 L1.length c1) (.int .i64 X1)
 have y0:=x.c0;have y1:=x.c1;have y2:=x.c2;have f0:=x.free 0;have f1:=x.free 1;have f2:=x.free 2
 clear x
 generalize hl:L1.length = l1 at *
 have hd:IsDy w1 (.agg #[.bool n1,.slice a1 l1 c1,.int .i64 X1]) z1 X1:=⟨n1,a1,c1,L1,by rw [hl],by rw [hl];exact i1⟩
 clear i1 hl K1
 go_wp2_with fail
 clear y0 y1 y2 f0 f1 f2
 have hb1a:Below w1.heap.size w1 (w1.alloc (.cells #[.bool false,.slice a1 l1 c1,.int .i64 X1] 47)):=(Below.refl _ _).alloc (Nat.le_refl _) _
 have x:=Box3.new w1 (.bool false) (.slice a1 l1 c1) (.int .i64 X1)
 have HV:=hide (hd.below hb1a)
 have B1:=hide (hb1.trans (hb1a.mono hb1.size))
 clear hd hb1 hb1a
 refine at_world (fun W=>W = (w1.alloc (.cells #[.bool false,.slice a1 l1 c1,.int .i64 X1] 47))) rfl ?_
 rintro W0 e0
 rw [← e0] at x HV B1
 clear e0
 generalize w1.heap.size = g at *
 have hK:∀ w',Below W0.heap.size W0 w'→Below W0.heap.size W0 w'∧w'.cell? ⟨g,0,none⟩ = some (.bool false)∧w'.cell? ⟨g,1,none⟩ = some (.slice a1 l1 c1):=fun w' h =>
  ⟨h,(x.all h).c0,(x.all h).c1⟩
 have HK:=hide hK
 have XB:=hide x
 clear hK x
 refine wp_region_held_drew (S:=(fun w'=>Below W0.heap.size W0 w'∧w'.cell? ⟨g,0,none⟩ = some (.bool false)∧w'.cell? ⟨g,1,none⟩ = some (.slice a1 l1 c1))) (by kernel_rfl) ?_ (fun hHeld=>?_)
 ·exact uH HK _ (Below.refl _ _).drew
 refine wpAnyH_take (i:=0) (oi:={ dst:=some 16,op:=Op.fieldAddr 47 (Operand.tmp 4) 0,type:=0,pos := "quotient.go:30",after:=#[],guard:=none }) (v:=Value.pointer (some ⟨g,0,none⟩)) rfl (by kernel_rfl) (by kernel_rfl) (by kernel_rfl) (fun _ _ _ h=>h) (Or.inl ⟨by rfl,?_⟩) (by assumption) ?_
 ·(intro w hSw;(try dsimp only at hSw);go_simp)
 simp only [Act.put,List.setIfInBounds_toArray,List.set_cons_zero,List.set_cons_succ]
 refine wpAnyH_take (i:=1) (oi:={ dst:=some 17,op:=Op.load 45 (Operand.tmp 16),type:=45,pos := "quotient.go:30",after:=#[{ on:=0,ground:=Ground.data }],guard:=none }) (v:=(Value.agg #[.bool false,.slice a1 l1 c1])) rfl (by kernel_rfl) (by kernel_rfl) (by kernel_rfl) (fun _ _ _ h=>h) (Or.inl ⟨by rfl,?_⟩) (by assumption) ?_
 ·(intro w hSw;(try dsimp only at hSw);go_simp)
 simp only [Act.put,List.setIfInBounds_toArray,List.set_cons_zero,List.set_cons_succ]
 refine wpAnyH_take (i:=2) (oi:={ dst:=some 18,op:=Op.fieldAddr 47 (Operand.tmp 4) 0,type:=0,pos := "quotient.go:30",after:=#[],guard:=none }) (v:=Value.pointer (some ⟨g,0,none⟩)) rfl (by kernel_rfl) (by kernel_rfl) (by kernel_rfl) (fun _ _ _ h=>h) (Or.inl ⟨by rfl,?_⟩) (by assumption) ?_
 ·(intro w hSw;(try dsimp only at hSw);go_simp)
 simp only [Act.put,List.setIfInBounds_toArray,List.set_cons_zero,List.set_cons_succ]
 refine wpAnyH_take (i:=3) (oi:={ dst:=some 19,op:=Op.load 45 (Operand.tmp 18),type:=45,pos := "quotient.go:30",after:=#[{ on:=2,ground:=Ground.data }],guard:=none }) (v:=(Value.agg #[.bool false,.slice a1 l1 c1])) rfl (by kernel_rfl) (by kernel_rfl) (by kernel_rfl) (fun _ _ _ h=>h) (Or.inl ⟨by rfl,?_⟩) (by assumption) ?_
 ·(intro w hSw;(try dsimp only at hSw);go_simp)
 simp only [Act.put,List.setIfInBounds_toArray,List.set_cons_zero,List.set_cons_succ]
 refine wpAnyH_ready (rs:=[4,10]) (by kernel_rfl) (by simp) ?_
 refine AllReadyH.cons (o:={ dst:=some 20,op:=Op.call { callee:=Callee.value (Operand.func 266),args:=#[Operand.tmp 19],argTypes:=#[45] },type:=3,pos := "quotient.go:30",after:=#[{ on:=3,ground:=Ground.data }],guard:=none }) rfl (fun K hK=>?_) (AllReadyH.cons (o:={ dst:=some 6,op:=Op.alloc 45,type:=0,pos := "quotient.go:30",after:=#[],guard:=none }) rfl (fun K hK=>?_) AllReadyH.nil)
 ·go_simp
  refine (uH K2 _ _ _ _ _ ((uH HV).below (And.left (by assumption)))).mono ?_
  rintro e wn ⟨rfl,hb1⟩
  have hBn:Below W0.heap.size W0 wn:=Below.trans (And.left (by assumption)) (hb1.mono (Below.size (And.left (by assumption))))
  clear hb1
  go_wp2_with fail
  refine hK.out _ _ ?_ (fun hHeld=>?_)
  ·exact uH HK _ hBn
  clear hK K
  refine wpAnyH_take (i:=5) (oi:={ dst:=some 21,op:=Op.binOp BinOp.sub 3 (Operand.const (Value.int IntKind.i64 53)) (Operand.tmp 20) 3,type:=3,pos := "quotient.go:30",after:=#[{ on:=4,ground:=Ground.data }],guard:=none }) (v:=(.int .i64 (53 - ln))) rfl (by kernel_rfl) (by kernel_rfl) (by kernel_rfl) (fun _ _ _ h=>h) (Or.inl ⟨by rfl,?_⟩) (by assumption) ?_
  ·(intro w hSw;(try dsimp only at hSw);go_simp;exact wrap_small _ (by omega))
  simp only [Act.put,List.setIfInBounds_toArray,List.set_cons_zero,List.set_cons_succ]
  refine wpAnyH_ready (rs:=[6,10]) (by kernel_rfl) (by simp) ?_
  refine AllReadyH.cons (o:={ dst:=some 22,op:=Op.call { callee:=Callee.value (Operand.func 252),args:=#[Operand.tmp 17,Operand.tmp 21],argTypes:=#[45,3] },type:=229,pos := "quotient.go:30",after:=#[{ on:=1,ground:=Ground.data },{ on:=5,ground:=Ground.data },{ on:=4,ground:=Ground.chain }],guard:=none }) rfl (fun K hK=>?_) (AllReadyH.cons (o:={ dst:=some 6,op:=Op.alloc 45,type:=0,pos := "quotient.go:30",after:=#[],guard:=none }) rfl (fun K hK=>?_) AllReadyH.nil)
  ·go_simp
   refine (uH K3 _ _ _ _ _ ((uH HV).below (And.left (by assumption)))).mono ?_
   rintro e wm ⟨v,rfl,⟨n2,a2,c2,L2,rfl,i2⟩,hb1⟩
   have hBm:Below W0.heap.size W0 wm:=Below.trans (And.left (by assumption)) (hb1.mono (Below.size (And.left (by assumption))))
   have I2:=hide (show IsNum 0 wm (.agg #[.bool n2,.slice a2 L2.length c2]) z2 from IsNum.mono ⟨n2,a2,c2,L2,rfl,i2⟩ (Nat.zero_le _))
   clear i2
   generalize L2.length = l2 at *
   clear hb1
   go_wp2_with fail
   refine hK.out _ _ ?_ (fun hHeld=>?_)
   ·exact uH HK _ hBm
   clear hK K
   refine wpAnyH_take (i:=7) (oi:={ dst:=some 15,op:=Op.move (Operand.tmp 22),type:=229,pos := "quotient.go:30",after:=#[{ on:=6,ground:=Ground.data }],guard:=none }) (v:=(Value.tuple #[.agg #[.bool n2,.slice a2 l2 c2],.int .i64 0])) rfl (by kernel_rfl) (by kernel_rfl) (by kernel_rfl) (fun _ _ _ h=>h) (Or.inl ⟨by rfl,?_⟩) (by assumption) ?_
   ·(intro w hSw;(try dsimp only at hSw);go_simp)
   simp only [Act.put,List.setIfInBounds_toArray,List.set_cons_zero,List.set_cons_succ]
   refine wpAnyH_take (i:=8) (oi:={ dst:=some 23,op:=Op.extract (Operand.tmp 15) 0,type:=45,pos := "quotient.go:30",after:=#[{ on:=7,ground:=Ground.data }],guard:=none }) (v:=(Value.agg #[.bool n2,.slice a2 l2 c2])) rfl (by kernel_rfl) (by kernel_rfl) (by kernel_rfl) (fun _ _ _ h=>h) (Or.inl ⟨by rfl,?_⟩) (by assumption) ?_
   ·(intro w hSw;(try dsimp only at hSw);go_simp)
   simp only [Act.put,List.setIfInBounds_toArray,List.set_cons_zero,List.set_cons_succ]
   refine wpAnyH_take (i:=9) (oi:={ dst:=some 24,op:=Op.extract (Operand.tmp 15) 1,type:=25,pos := "quotient.go:30",after:=#[{ on:=7,ground:=Ground.data },{ on:=11,ground:=Ground.gcOnly Departure.lateStores }],guard:=none }) (v:=(.int .i64 0)) rfl (by kernel_rfl) (by kernel_rfl) (by kernel_rfl) (fun _ _ _ h=>h) (Or.inl ⟨by rfl,?_⟩) (by assumption) ?_
   ·(intro w hSw;(try dsimp only at hSw);go_simp)
   simp only [Act.put,List.setIfInBounds_toArray,List.set_cons_zero,List.set_cons_succ]
   refine wpAnyH_ready (rs:=[10]) (by kernel_rfl) (by simp) ?_
   refine AllReadyH.cons (o:={ dst:=some 6,op:=Op.alloc 45,type:=0,pos := "quotient.go:30",after:=#[],guard:=none }) rfl (fun K hK=>?_) AllReadyH.nil
   go_wp2_with fail
   refine hK.out _ _ ?_ (fun hHeld=>?_)
   ·exact uH HK _ (Below.alloc (And.left (by assumption)) (Below.size (And.left (by assumption))) _)
   clear hK K
   have bx:=Box2.new wm (.bool false) (.slice none 0 0)
   have gB:W0.heap.size≤wm.heap.size:=Below.size (B:=W0.heap.size) (w:=W0) hBm
   have I0:=I2
   have I2:=hide (show IsNum 0 (wm.alloc (.cells #[.bool false,.slice none 0 0] 45)) (.agg #[.bool n2,.slice a2 l2 c2]) z2 from (uH I2).below ((Below.refl _ _).alloc (Nat.le_refl _) _))
   have hW:=Below.alloc hBm gB (.cells #[.bool false,.slice none 0 0] 45)
   have IS:=hide (show IsNum 0 ((((wm.alloc (.cells #[.bool false,.slice none 0 0] 45)).setCell ⟨wm.heap.size,0,none⟩ (.bool n2)).setCell ⟨wm.heap.size,1,none⟩ (.slice a2 l2 c2))) (.agg #[.bool n2,.slice a2 l2 c2]) z2 from (uH I0).below ((((Below.refl _ _).alloc (Nat.le_refl _) _).setCell (Nat.le_refl _) _).setCell (Nat.le_refl _) _))
   generalize hwa:(wm.alloc (.cells #[.bool false,.slice none 0 0] 45)) = wa at *
   generalize wm.heap.size = gm at *
   refine wpAnyH_ready (rs:=[11]) (by kernel_rfl) (by simp) ?_
   refine AllReadyH.cons (o:={ dst:=none,op:=Op.store 45 (Operand.tmp 6) (Operand.tmp 23),type:=0,pos := "quotient.go:30",after:=#[{ on:=10,ground:=Ground.data },{ on:=8,ground:=Ground.data },{ on:=6,ground:=Ground.chain },{ on:=0,ground:=Ground.phase },{ on:=1,ground:=Ground.phase },{ on:=2,ground:=Ground.phase },{ on:=3,ground:=Ground.phase },{ on:=4,ground:=Ground.phase },{ on:=5,ground:=Ground.phase },{ on:=6,ground:=Ground.phase },{ on:=7,ground:=Ground.phase },{ on:=8,ground:=Ground.phase },{ on:=9,ground:=Ground.textOnly Departure.lateStores },{ on:=10,ground:=Ground.phase }],guard:=none }) rfl (fun K hK=>?_) AllReadyH.nil
   have q0:=bx.c0;have q1:=bx.c1;have f0:=bx.free 0;have f1:=bx.free 1
   go_wp2_with fail
   refine hK.out _ _ ?_ (fun hHeld=>?_)
   ·exact uH HK _ (Below.setCell (Below.setCell (And.left (by assumption)) gB _) gB _)
   clear hK K q0 q1 f0 f1
   refine wpAnyH_take (i:=12) (oi:={ dst:=some 7,op:=Op.assign (Operand.tmp 24),type:=25,pos := "quotient.go:30",after:=#[{ on:=9,ground:=Ground.data },{ on:=11,ground:=Ground.chain },{ on:=0,ground:=Ground.phase },{ on:=1,ground:=Ground.phase },{ on:=2,ground:=Ground.phase },{ on:=3,ground:=Ground.phase },{ on:=4,ground:=Ground.phase },{ on:=5,ground:=Ground.phase },{ on:=6,ground:=Ground.phase },{ on:=7,ground:=Ground.phase },{ on:=8,ground:=Ground.phase },{ on:=9,ground:=Ground.phase },{ on:=10,ground:=Ground.phase },{ on:=11,ground:=Ground.phase }],guard:=none }) (v:=(.int .i64 0)) rfl (by kernel_rfl) (by kernel_rfl) (by kernel_rfl) (fun _ _ _ h=>h) (Or.inl ⟨by rfl,?_⟩) (by assumption) ?_
   ·(intro w hSw;(try dsimp only at hSw);go_simp)
   simp only [Act.put,List.setIfInBounds_toArray,List.set_cons_zero,List.set_cons_succ]
   refine wpAnyH_done (by kernel_rfl) ?_ _
   have bz:=bx.put (.bool n2) (.slice a2 l2 c2)
   have HZ:=hide (show IsNum 0 ((wa.setCell ⟨gm,0,none⟩ (.bool n2)).setCell ⟨gm,1,none⟩ (.slice a2 l2 c2)) (.agg #[.bool n2,.slice a2 l2 c2]) z2 from uH IS)
   have BZ:=hide (show Below W0.heap.size W0 ((wa.setCell ⟨gm,0,none⟩ (.bool n2)).setCell ⟨gm,1,none⟩ (.slice a2 l2 c2)) from Below.setCell (Below.setCell hW gB _) gB _)
   have r0:=bz.c0;have r1:=bz.c1
   clear bx I2 hHeld
   generalize ((wa.setCell ⟨gm,0,none⟩ (.bool n2)).setCell ⟨gm,1,none⟩ (.slice a2 l2 c2)) = WE at *
   go_wp2_with fail
   refine (uH K4 _ _ _ (uH HZ)).mono ?_
   rintro e we ⟨rfl,hb1⟩
   have BE:=hide ((uH BZ).trans (hb1.mono (uH BZ).size))
   have HW:=hide ((uH HV).below (uH BE))
   have xe:=(uH XB).all (uH BE)
   have y0:=xe.c0;have y1:=xe.c1;have y2:=xe.c2
   clear r0 r1 bz hb1 BZ HZ xe
   go_wp2_with fail
   refine (uH K5 _ _ _ _ _ (uH HW)).mono ?_
   rintro e wf ⟨rfl,hb1⟩
   have BF:=hide ((uH B1).trans (((uH BE).trans (hb1.mono (uH BE).size)).mono (uH B1).size))
   clear hb1 BE HW y0 y1 y2
   go_wp2
   exact bodyPost_ret (v:=.tuple #[.int .i64 z2,.int .i64 tp]) (by simp [results,Tryz.results247,go_sem]) rfl ⟨rfl,uH BF⟩
  ·go_wp2_with fail
   refine hK.out _ _ ?_ (fun hHeld=>?_)
   ·exact uH HK _ (Below.alloc (And.left (by assumption)) (Below.size (And.left (by assumption))) _)
   clear hK K
   have bx:=Box2.new wn (.bool false) (.slice none 0 0)
   have gB:W0.heap.size≤wn.heap.size:=Below.size (B:=W0.heap.size) (w:=W0) hBn
   have hW:=Below.alloc hBn gB (.cells #[.bool false,.slice none 0 0] 45)
   generalize hwa:(wn.alloc (.cells #[.bool false,.slice none 0 0] 45)) = wa at *
   generalize wn.heap.size = gm at *
   refine wpAnyH_ready (rs:=[6]) (by kernel_rfl) (by simp) ?_
   refine AllReadyH.cons (o:={ dst:=some 22,op:=Op.call { callee:=Callee.value (Operand.func 252),args:=#[Operand.tmp 17,Operand.tmp 21],argTypes:=#[45,3] },type:=229,pos := "quotient.go:30",after:=#[{ on:=1,ground:=Ground.data },{ on:=5,ground:=Ground.data },{ on:=4,ground:=Ground.chain }],guard:=none }) rfl (fun K hK=>?_) AllReadyH.nil
   go_simp
   refine (uH K3 _ _ _ _ _ ((uH HV).below (And.left (by assumption)))).mono ?_
   rintro e wm ⟨v,rfl,⟨n2,a2,c2,L2,rfl,i2⟩,hb1⟩
   have hBm:Below W0.heap.size W0 wm:=Below.trans (And.left (by assumption)) (hb1.mono (Below.size (And.left (by assumption))))
   have I2:=hide (show IsNum (gm+1) wm (.agg #[.bool n2,.slice a2 L2.length c2]) z2 from IsNum.mono ⟨n2,a2,c2,L2,rfl,i2⟩ (Nat.succ_le_of_lt bx.lt))
   have bx:=bx.all hb1
   clear i2
   generalize L2.length = l2 at *
   clear hb1
   go_wp2_with fail
   refine hK.out _ _ ?_ (fun hHeld=>?_)
   ·exact uH HK _ hBm
   clear hK K
   refine wpAnyH_take (i:=7) (oi:={ dst:=some 15,op:=Op.move (Operand.tmp 22),type:=229,pos := "quotient.go:30",after:=#[{ on:=6,ground:=Ground.data }],guard:=none }) (v:=(Value.tuple #[.agg #[.bool n2,.slice a2 l2 c2],.int .i64 0])) rfl (by kernel_rfl) (by kernel_rfl) (by kernel_rfl) (fun _ _ _ h=>h) (Or.inl ⟨by rfl,?_⟩) (by assumption) ?_
   ·(intro w hSw;(try dsimp only at hSw);go_simp)
   simp only [Act.put,List.setIfInBounds_toArray,List.set_cons_zero,List.set_cons_succ]
   refine wpAnyH_take (i:=8) (oi:={ dst:=some 23,op:=Op.extract (Operand.tmp 15) 0,type:=45,pos := "quotient.go:30",after:=#[{ on:=7,ground:=Ground.data }],guard:=none }) (v:=(Value.agg #[.bool n2,.slice a2 l2 c2])) rfl (by kernel_rfl) (by kernel_rfl) (by kernel_rfl) (fun _ _ _ h=>h) (Or.inl ⟨by rfl,?_⟩) (by assumption) ?_
   ·(intro w hSw;(try dsimp only at hSw);go_simp)
   simp only [Act.put,List.setIfInBounds_toArray,List.set_cons_zero,List.set_cons_succ]
   refine wpAnyH_take (i:=9) (oi:={ dst:=some 24,op:=Op.extract (Operand.tmp 15) 1,type:=25,pos := "quotient.go:30",after:=#[{ on:=7,ground:=Ground.data },{ on:=11,ground:=Ground.gcOnly Departure.lateStores }],guard:=none }) (v:=(.int .i64 0)) rfl (by kernel_rfl) (by kernel_rfl) (by kernel_rfl) (fun _ _ _ h=>h) (Or.inl ⟨by rfl,?_⟩) (by assumption) ?_
   ·(intro w hSw;(try dsimp only at hSw);go_simp)
   simp only [Act.put,List.setIfInBounds_toArray,List.set_cons_zero,List.set_cons_succ]
   refine wpAnyH_ready (rs:=[11]) (by kernel_rfl) (by simp) ?_
   refine AllReadyH.cons (o:={ dst:=none,op:=Op.store 45 (Operand.tmp 6) (Operand.tmp 23),type:=0,pos := "quotient.go:30",after:=#[{ on:=10,ground:=Ground.data },{ on:=8,ground:=Ground.data },{ on:=6,ground:=Ground.chain },{ on:=0,ground:=Ground.phase },{ on:=1,ground:=Ground.phase },{ on:=2,ground:=Ground.phase },{ on:=3,ground:=Ground.phase },{ on:=4,ground:=Ground.phase },{ on:=5,ground:=Ground.phase },{ on:=6,ground:=Ground.phase },{ on:=7,ground:=Ground.phase },{ on:=8,ground:=Ground.phase },{ on:=9,ground:=Ground.textOnly Departure.lateStores },{ on:=10,ground:=Ground.phase }],guard:=none }) rfl (fun K hK=>?_) AllReadyH.nil
   have q0:=bx.c0;have q1:=bx.c1;have f0:=bx.free 0;have f1:=bx.free 1
   go_wp2_with fail
   refine hK.out _ _ ?_ (fun hHeld=>?_)
   ·exact uH HK _ (Below.setCell (Below.setCell (And.left (by assumption)) gB _) gB _)
   clear hK K q0 q1 f0 f1
   refine wpAnyH_take (i:=12) (oi:={ dst:=some 7,op:=Op.assign (Operand.tmp 24),type:=25,pos := "quotient.go:30",after:=#[{ on:=9,ground:=Ground.data },{ on:=11,ground:=Ground.chain },{ on:=0,ground:=Ground.phase },{ on:=1,ground:=Ground.phase },{ on:=2,ground:=Ground.phase },{ on:=3,ground:=Ground.phase },{ on:=4,ground:=Ground.phase },{ on:=5,ground:=Ground.phase },{ on:=6,ground:=Ground.phase },{ on:=7,ground:=Ground.phase },{ on:=8,ground:=Ground.phase },{ on:=9,ground:=Ground.phase },{ on:=10,ground:=Ground.phase },{ on:=11,ground:=Ground.phase }],guard:=none }) (v:=(.int .i64 0)) rfl (by kernel_rfl) (by kernel_rfl) (by kernel_rfl) (fun _ _ _ h=>h) (Or.inl ⟨by rfl,?_⟩) (by assumption) ?_
   ·(intro w hSw;(try dsimp only at hSw);go_simp)
   simp only [Act.put,List.setIfInBounds_toArray,List.set_cons_zero,List.set_cons_succ]
   refine wpAnyH_done (by kernel_rfl) ?_ _
   have bz:=bx.put (.bool n2) (.slice a2 l2 c2)
   have HZ:=hide (show IsNum 0 ((wm.setCell ⟨gm,0,none⟩ (.bool n2)).setCell ⟨gm,1,none⟩ (.slice a2 l2 c2)) (.agg #[.bool n2,.slice a2 l2 c2]) z2 from ((uH I2).put2 (p:=⟨gm,0,none⟩) (q:=⟨gm,1,none⟩) (by simp) (by simp) (.bool n2) (.slice a2 l2 c2)).mono (Nat.zero_le _))
   have BZ:=hide (show Below W0.heap.size W0 ((wm.setCell ⟨gm,0,none⟩ (.bool n2)).setCell ⟨gm,1,none⟩ (.slice a2 l2 c2)) from Below.setCell (Below.setCell hBm gB _) gB _)
   have r0:=bz.c0;have r1:=bz.c1
   clear bx I2 hHeld
   generalize ((wm.setCell ⟨gm,0,none⟩ (.bool n2)).setCell ⟨gm,1,none⟩ (.slice a2 l2 c2)) = WE at *
   go_wp2_with fail
   refine (uH K4 _ _ _ (uH HZ)).mono ?_
   rintro e we ⟨rfl,hb1⟩
   have BE:=hide ((uH BZ).trans (hb1.mono (uH BZ).size))
   have HW:=hide ((uH HV).below (uH BE))
   have xe:=(uH XB).all (uH BE)
   have y0:=xe.c0;have y1:=xe.c1;have y2:=xe.c2
   clear r0 r1 bz hb1 BZ HZ xe
   go_wp2_with fail
   refine (uH K5 _ _ _ _ _ (uH HW)).mono ?_
   rintro e wf ⟨rfl,hb1⟩
   have BF:=hide ((uH B1).trans (((uH BE).trans (hb1.mono (uH BE).size)).mono (uH B1).size))
   clear hb1 BE HW y0 y1 y2
   go_wp2
   exact bodyPost_ret (v:=.tuple #[.int .i64 z2,.int .i64 tp]) (by simp [results,Tryz.results247,go_sem]) rfl ⟨rfl,uH BF⟩
 ·go_wp2_with fail
  refine hK.out _ _ ?_ (fun hHeld=>?_)
  ·exact uH HK _ (((Below.refl W0.heap.size W0).alloc (Nat.le_refl _) _).drew)
  clear hK K
  have bx:Box2 (W0.alloc (.cells #[.bool false,.slice none 0 0] 45)).drew W0.heap.size (.bool false) (.slice none 0 0):=(Box2.new W0 (.bool false) (.slice none 0 0)).drew
  have gB:W0.heap.size≤W0.heap.size:=Nat.le_refl _
  generalize hwa:(W0.alloc (.cells #[.bool false,.slice none 0 0] 45)).drew = wa at *
  refine wpAnyH_ready (rs:=[4]) (by kernel_rfl) (by simp) ?_
  refine AllReadyH.cons (o:={ dst:=some 20,op:=Op.call { callee:=Callee.value (Operand.func 266),args:=#[Operand.tmp 19],argTypes:=#[45] },type:=3,pos := "quotient.go:30",after:=#[{ on:=3,ground:=Ground.data }],guard:=none }) rfl (fun K hK=>?_) AllReadyH.nil
  go_simp
  refine (uH K2 _ _ _ _ _ ((uH HV).below (And.left (by assumption)))).mono ?_
  rintro e wn ⟨rfl,hb1⟩
  have hBn:Below W0.heap.size W0 wn:=Below.trans (And.left (by assumption)) (hb1.mono (Below.size (And.left (by assumption))))
  have bx:=bx.all hb1
  clear hb1
  go_wp2_with fail
  refine hK.out _ _ ?_ (fun hHeld=>?_)
  ·exact uH HK _ hBn
  clear hK K
  refine wpAnyH_take (i:=5) (oi:={ dst:=some 21,op:=Op.binOp BinOp.sub 3 (Operand.const (Value.int IntKind.i64 53)) (Operand.tmp 20) 3,type:=3,pos := "quotient.go:30",after:=#[{ on:=4,ground:=Ground.data }],guard:=none }) (v:=(.int .i64 (53 - ln))) rfl (by kernel_rfl) (by kernel_rfl) (by kernel_rfl) (fun _ _ _ h=>h) (Or.inl ⟨by rfl,?_⟩) (by assumption) ?_
  ·(intro w hSw;(try dsimp only at hSw);go_simp;exact wrap_small _ (by omega))
  simp only [Act.put,List.setIfInBounds_toArray,List.set_cons_zero,List.set_cons_succ]
  refine wpAnyH_ready (rs:=[6]) (by kernel_rfl) (by simp) ?_
  refine AllReadyH.cons (o:={ dst:=some 22,op:=Op.call { callee:=Callee.value (Operand.func 252),args:=#[Operand.tmp 17,Operand.tmp 21],argTypes:=#[45,3] },type:=229,pos := "quotient.go:30",after:=#[{ on:=1,ground:=Ground.data },{ on:=5,ground:=Ground.data },{ on:=4,ground:=Ground.chain }],guard:=none }) rfl (fun K hK=>?_) AllReadyH.nil
  go_simp
  refine (uH K3 _ _ _ _ _ ((uH HV).below (And.left (by assumption)))).mono ?_
  rintro e wm ⟨v,rfl,⟨n2,a2,c2,L2,rfl,i2⟩,hb1⟩
  have hBm:Below W0.heap.size W0 wm:=Below.trans (And.left (by assumption)) (hb1.mono (Below.size (And.left (by assumption))))
  have I2:=hide (show IsNum (W0.heap.size+1) wm (.agg #[.bool n2,.slice a2 L2.length c2]) z2 from IsNum.mono ⟨n2,a2,c2,L2,rfl,i2⟩ (Nat.succ_le_of_lt bx.lt))
  have bx:=bx.all hb1
  clear i2
  generalize L2.length = l2 at *
  clear hb1
  go_wp2_with fail
  refine hK.out _ _ ?_ (fun hHeld=>?_)
  ·exact uH HK _ hBm
  clear hK K
  refine wpAnyH_take (i:=7) (oi:={ dst:=some 15,op:=Op.move (Operand.tmp 22),type:=229,pos := "quotient.go:30",after:=#[{ on:=6,ground:=Ground.data }],guard:=none }) (v:=(Value.tuple #[.agg #[.bool n2,.slice a2 l2 c2],.int .i64 0])) rfl (by kernel_rfl) (by kernel_rfl) (by kernel_rfl) (fun _ _ _ h=>h) (Or.inl ⟨by rfl,?_⟩) (by assumption) ?_
  ·(intro w hSw;(try dsimp only at hSw);go_simp)
  simp only [Act.put,List.setIfInBounds_toArray,List.set_cons_zero,List.set_cons_succ]
  refine wpAnyH_take (i:=8) (oi:={ dst:=some 23,op:=Op.extract (Operand.tmp 15) 0,type:=45,pos := "quotient.go:30",after:=#[{ on:=7,ground:=Ground.data }],guard:=none }) (v:=(Value.agg #[.bool n2,.slice a2 l2 c2])) rfl (by kernel_rfl) (by kernel_rfl) (by kernel_rfl) (fun _ _ _ h=>h) (Or.inl ⟨by rfl,?_⟩) (by assumption) ?_
  ·(intro w hSw;(try dsimp only at hSw);go_simp)
  simp only [Act.put,List.setIfInBounds_toArray,List.set_cons_zero,List.set_cons_succ]
  refine wpAnyH_take (i:=9) (oi:={ dst:=some 24,op:=Op.extract (Operand.tmp 15) 1,type:=25,pos := "quotient.go:30",after:=#[{ on:=7,ground:=Ground.data },{ on:=11,ground:=Ground.gcOnly Departure.lateStores }],guard:=none }) (v:=(.int .i64 0)) rfl (by kernel_rfl) (by kernel_rfl) (by kernel_rfl) (fun _ _ _ h=>h) (Or.inl ⟨by rfl,?_⟩) (by assumption) ?_
  ·(intro w hSw;(try dsimp only at hSw);go_simp)
  simp only [Act.put,List.setIfInBounds_toArray,List.set_cons_zero,List.set_cons_succ]
  refine wpAnyH_ready (rs:=[11]) (by kernel_rfl) (by simp) ?_
  refine AllReadyH.cons (o:={ dst:=none,op:=Op.store 45 (Operand.tmp 6) (Operand.tmp 23),type:=0,pos := "quotient.go:30",after:=#[{ on:=10,ground:=Ground.data },{ on:=8,ground:=Ground.data },{ on:=6,ground:=Ground.chain },{ on:=0,ground:=Ground.phase },{ on:=1,ground:=Ground.phase },{ on:=2,ground:=Ground.phase },{ on:=3,ground:=Ground.phase },{ on:=4,ground:=Ground.phase },{ on:=5,ground:=Ground.phase },{ on:=6,ground:=Ground.phase },{ on:=7,ground:=Ground.phase },{ on:=8,ground:=Ground.phase },{ on:=9,ground:=Ground.textOnly Departure.lateStores },{ on:=10,ground:=Ground.phase }],guard:=none }) rfl (fun K hK=>?_) AllReadyH.nil
  have q0:=bx.c0;have q1:=bx.c1;have f0:=bx.free 0;have f1:=bx.free 1
  go_wp2_with fail
  refine hK.out _ _ ?_ (fun hHeld=>?_)
  ·exact uH HK _ (Below.setCell (Below.setCell (And.left (by assumption)) gB _) gB _)
  clear hK K q0 q1 f0 f1
  refine wpAnyH_take (i:=12) (oi:={ dst:=some 7,op:=Op.assign (Operand.tmp 24),type:=25,pos := "quotient.go:30",after:=#[{ on:=9,ground:=Ground.data },{ on:=11,ground:=Ground.chain },{ on:=0,ground:=Ground.phase },{ on:=1,ground:=Ground.phase },{ on:=2,ground:=Ground.phase },{ on:=3,ground:=Ground.phase },{ on:=4,ground:=Ground.phase },{ on:=5,ground:=Ground.phase },{ on:=6,ground:=Ground.phase },{ on:=7,ground:=Ground.phase },{ on:=8,ground:=Ground.phase },{ on:=9,ground:=Ground.phase },{ on:=10,ground:=Ground.phase },{ on:=11,ground:=Ground.phase }],guard:=none }) (v:=(.int .i64 0)) rfl (by kernel_rfl) (by kernel_rfl) (by kernel_rfl) (fun _ _ _ h=>h) (Or.inl ⟨by rfl,?_⟩) (by assumption) ?_
  ·(intro w hSw;(try dsimp only at hSw);go_simp)
  simp only [Act.put,List.setIfInBounds_toArray,List.set_cons_zero,List.set_cons_succ]
  refine wpAnyH_done (by kernel_rfl) ?_ _
  have bz:=bx.put (.bool n2) (.slice a2 l2 c2)
  have HZ:=hide (show IsNum 0 ((wm.setCell ⟨W0.heap.size,0,none⟩ (.bool n2)).setCell ⟨W0.heap.size,1,none⟩ (.slice a2 l2 c2)) (.agg #[.bool n2,.slice a2 l2 c2]) z2 from ((uH I2).put2 (p:=⟨W0.heap.size,0,none⟩) (q:=⟨W0.heap.size,1,none⟩) (by simp) (by simp) (.bool n2) (.slice a2 l2 c2)).mono (Nat.zero_le _))
  have BZ:=hide (show Below W0.heap.size W0 ((wm.setCell ⟨W0.heap.size,0,none⟩ (.bool n2)).setCell ⟨W0.heap.size,1,none⟩ (.slice a2 l2 c2)) from Below.setCell (Below.setCell hBm gB _) gB _)
  have r0:=bz.c0;have r1:=bz.c1
  clear bx I2 hHeld
  generalize ((wm.setCell ⟨W0.heap.size,0,none⟩ (.bool n2)).setCell ⟨W0.heap.size,1,none⟩ (.slice a2 l2 c2)) = WE at *
  go_wp2_with fail
  refine (uH K4 _ _ _ (uH HZ)).mono ?_
  rintro e we ⟨rfl,hb1⟩
  have BE:=hide ((uH BZ).trans (hb1.mono (uH BZ).size))
  have HW:=hide ((uH HV).below (uH BE))
  have xe:=(uH XB).all (uH BE)
  have y0:=xe.c0;have y1:=xe.c1;have y2:=xe.c2
  clear r0 r1 bz hb1 BZ HZ xe
  go_wp2_with fail
  refine (uH K5 _ _ _ _ _ (uH HW)).mono ?_
  rintro e wf ⟨rfl,hb1⟩
  have BF:=hide ((uH B1).trans (((uH BE).trans (hb1.mono (uH BE).size)).mono (uH B1).size))
  clear hb1 BE HW y0 y1 y2
  go_wp2
  exact bodyPost_ret (v:=.tuple #[.int .i64 z2,.int .i64 tp]) (by simp [results,Tryz.results247,go_sem]) rfl ⟨rfl,uH BF⟩
end Go.Proofs.YtlnphkioddknfaaGreatDoor
