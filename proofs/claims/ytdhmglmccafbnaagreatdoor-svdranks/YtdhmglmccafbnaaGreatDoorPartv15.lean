/- Part 15 of the texts. -/
import Derived.Test.YtdhmglmccafbnaaGreatDoorPartv13
import Derived.Test.YtdhmglmccafbnaaGreatDoorPartv14
import Derived.Test.YtdhmglmccafbnaaGreatDoorPartv12
set_option maxHeartbeats 4000000
set_option maxRecDepth 20000
namespace Go.Proofs.YtdhmglmccafbnaaGreatDoor
open Go.RowKit
theorem abs_plus (a:Nat) (h:fS a = false) (ha:a < 18446744073709551616):fR a = a:=by
 have:=of_decide_eq_false h
 unfold fR;omega
theorem abs_minus (a:Nat) (h:fS a = true) (ha:a < 18446744073709551616):fR a = fN a:=by
 have:=of_decide_eq_true h
 unfold fR fN;rw [if_pos this];omega
theorem cabs_any (a:Nat) (w:World) (ha:a < 18446744073709551616) :
  Calls Tryz.prog 124 #[.int .u64 a] w fun e w'=>e = .returned (.int .u64 (fR a:Nat))∧Below w.heap.size w w':=by
 have K1:=hide (fun w'=>ssign_any a w' ha)
 have K2:=hide (fun w'=>sminus_any a w' ha)
 cases hs:fS a
 ·rw [hs] at K1
  rw [abs_plus a hs ha]
  clear hs ha K2
  go_enter Tryz.func124,Tryz.ntmps124
  go_wp2_with fail
  refine (uH K1 _).mono ?_
  rintro e w1 ⟨rfl,hb1⟩
  clear K1
  go_wp2
  go_ret
  exact ⟨rfl,hb1⟩
 ·rw [hs] at K1
  rw [abs_minus a hs ha]
  clear hs ha
  generalize fN a = q at *
  go_enter Tryz.func124,Tryz.ntmps124
  go_wp2_with fail
  refine (uH K1 _).mono ?_
  rintro e w1 ⟨rfl,hb1⟩
  clear K1
  go_wp2_with fail
  refine (uH K2 _).mono ?_
  rintro e w2 ⟨rfl,rfl⟩
  clear K2
  go_wp2
  go_ret
  exact ⟨rfl,hb1⟩
def pl (a:Nat):Int:=if fS a = true then -(fR a:Int) else (fR a:Int)
theorem place_of (a r:Nat) (s:Bool) (w:World) (hr:r < 9223372036854775808)
  (C1:∀ w',Calls Tryz.prog 124 #[.int .u64 a] w' fun e w''=>e = .returned (.int .u64 (r:Nat))∧Below w'.heap.size w' w'')
  (C2:∀ w',Calls Tryz.prog 187 #[.int .u64 a] w' fun e w''=>e = .returned (.bool s)∧Below w'.heap.size w' w'') :
  Calls Tryz.prog 219 #[.int .u64 a] w fun e w'=>e = .returned (.int .i64 (if s = true then -(r:Int) else (r:Int)))∧Below w.heap.size w w':=by
 have K1:=hide C1;have K2:=hide C2
 have h1:IntKind.i64.wrap (r:Int) = (r:Int):=by simp only [IntKind.wrap_i64];omega
 have h2:IntKind.i64.wrap (-(r:Int)) = -(r:Int):=by simp only [IntKind.wrap_i64];omega
 clear C1 C2
 cases s
 ·go_enter Tryz.func219,Tryz.ntmps219
  go_wp2_with fail
  refine (uH K1 _).mono ?_
  rintro e w1 ⟨rfl,hb1⟩
  have B1:=hide hb1
  clear K1 hb1
  go_wp2_with fail
  refine (uH K2 _).mono ?_
  rintro e w2 ⟨rfl,hb1⟩
  have B2:=hide ((uH B1).trans (hb1.mono (uH B1).size))
  clear K2 hb1
  go_wp2
  go_ret
  exact ⟨rfl,uH B2⟩
 ·go_enter Tryz.func219,Tryz.ntmps219
  go_wp2_with fail
  refine (uH K1 _).mono ?_
  rintro e w1 ⟨rfl,hb1⟩
  have B1:=hide hb1
  clear K1 hb1
  go_wp2_with fail
  refine (uH K2 _).mono ?_
  rintro e w2 ⟨rfl,hb1⟩
  have B2:=hide ((uH B1).trans (hb1.mono (uH B1).size))
  clear K2 hb1
  go_wp2
  go_ret
  exact ⟨rfl,uH B2⟩
theorem place_any (a:Nat) (w:World) (ha:a < 18446744073709551616) :
  Calls Tryz.prog 219 #[.int .u64 a] w fun e w'=>e = .returned (.int .i64 (pl a))∧Below w.heap.size w w' :=
 place_of a (fR a) (fS a) w (fR_lt a) (fun w'=>cabs_any a w' ha) (fun w'=>ssign_any a w' ha)
theorem isNaNl_any (a:Int) (w:World):Calls Tryz.prog 249 #[.int .i64 a] w fun e w'=>e = .returned (.bool false)∧w = w':=by
 go_enter Tryz.func249,Tryz.ntmps249
 go_wp2
 go_ret
 exact ⟨rfl,rfl⟩
theorem cmpl_any (a b:Int) (w:World):Calls Tryz.prog 218 #[.int .i64 a,.int .i64 b] w fun e w'=>e = .returned (.int .i64 (cmpI a b))∧w = w':=by
 have HE:Hid (cmpI a b = if a < b then -1 else if b < a then 1 else 0):=rfl
 generalize cmpI a b = c at *
 rcases (show a < b ∨ b < a ∨ a = b by omega) with h | h | h
 ·go_enter Tryz.func218,Tryz.ntmps218
  go_wp2_with (go_at_call 249;refine (isNaNl_any _ _).mono ?_;rintro e w' ⟨rfl,rfl⟩)
  go_ret
  exact ⟨ret_int (by rw [HE.out];simp [h]),rfl⟩
 ·have h':¬ a < b:=by omega
  go_enter Tryz.func218,Tryz.ntmps218
  go_wp2_with (go_at_call 249;refine (isNaNl_any _ _).mono ?_;rintro e w' ⟨rfl,rfl⟩)
  go_ret
  exact ⟨ret_int (by rw [HE.out];simp [h,h']),rfl⟩
 ·subst h
  go_enter Tryz.func218,Tryz.ntmps218
  go_wp2_with (go_at_call 249;refine (isNaNl_any _ _).mono ?_;rintro e w' ⟨rfl,rfl⟩)
  go_ret
  exact ⟨ret_int (by rw [HE.out];simp),rfl⟩
def cO (a b:Nat):Int:=if fK a = 4 ∨ fK b = 4 then 0 else cmpI (fZ a) (fZ b)
def cB (a b:Nat):Bool:=if fK a = 4 ∨ fK b = 4 then false else true
theorem rv8_lt {r s:Nat} (h:r < s):rv r < rv s:=Nat.lt_of_lt_of_le (rv_succ r) (rv_mono h)
theorem rv_pos {r:Nat} (h:0 < r):0 < rv r:=by have:=rv8_lt h;rw [rv_zero] at this;exact this
theorem cmpI8_lt {a b:Int} (h:a < b):cmpI a b = -1:=by unfold cmpI;rw [if_pos h]
theorem cmpI8_gt {a b:Int} (h:b < a):cmpI a b = 1:=by unfold cmpI;rw [if_neg (by omega),if_pos h]
theorem cmpI8_eq {a b:Int} (h:a = b):cmpI a b = 0:=by unfold cmpI;rw [if_neg (by omega),if_neg (by omega)]
theorem pv_pl_lt {n m:Bool} {r s:Nat} (h:(if n = true then -(r:Int) else (r:Int)) < (if m = true then -(s:Int) else (s:Int))):pv n r < pv m s:=by
 have z:rv 0 = 0:=rv_zero
 have l1:r < s→rv r < rv s:=rv8_lt
 have l2:s < r→rv s < rv r:=rv8_lt
 have p1:0 < r→0 < rv r:=rv_pos
 have p2:0 < s→0 < rv s:=rv_pos
 unfold pv
 cases n <;> cases m <;> simp only [if_true,if_false,Bool.false_eq_true] at h ⊢ <;> omega
theorem pl_cmp (a b:Nat):cmpI (pl a) (pl b) = cmpI (fZ a) (fZ b):=by
 have h1:pl a < pl b→fZ a < fZ b:=fun h=>pv_pl_lt h
 have h2:pl b < pl a→fZ b < fZ a:=fun h=>pv_pl_lt h
 rcases (show pl a < pl b ∨ pl b < pl a ∨ pl a = pl b by omega) with h | h | h
 ·rw [cmpI8_lt h,cmpI8_lt (h1 h)]
 ·rw [cmpI8_gt h,cmpI8_gt (h2 h)]
 ·have h3:fZ a = fZ b:=by
   unfold pl at h
   unfold fZ pv
   cases ha:fS a <;> cases hb:fS b <;> rw [ha,hb] at h <;> simp only [if_true,if_false,Bool.false_eq_true] at h ⊢
   ·rw [show fR a = fR b by omega]
   ·rw [show fR a = 0 by omega,show fR b = 0 by omega,rv_zero];rfl
   ·rw [show fR a = 0 by omega,show fR b = 0 by omega,rv_zero];rfl
   ·rw [show fR a = fR b by omega]
  rw [cmpI8_eq h,cmpI8_eq h3]
theorem order_n1 (a b:Nat) (w:World)
  (C1:∀ w',Calls Tryz.prog 113 #[.int .u64 a] w' fun r w''=>r = .returned (.int .i64 4)∧Below w'.heap.size w' w'') :
  Calls Tryz.prog 167 #[.int .u64 a,.int .u64 b] w fun r w'=>r = .returned (.tuple #[.int .i64 0,.bool false])∧Below w.heap.size w w':=by
 have K1:=hide C1
 clear C1
 go_enter Tryz.func167,Tryz.ntmps167
 go_wp2_with fail
 refine (uH K1 _).mono ?_
 rintro e w1 ⟨rfl,hb1⟩
 clear K1
 go_wp2
 exact bodyPost_ret (v:=.tuple #[.int .i64 0,.bool false]) (by simp [results,Tryz.results167,go_sem]) rfl ⟨rfl,hb1⟩
theorem order_n2 (a b:Nat) (ka:Int) (w:World) (h4:(ka == 4) = false)
  (C1:∀ w',Calls Tryz.prog 113 #[.int .u64 a] w' fun r w''=>r = .returned (.int .i64 ka)∧Below w'.heap.size w' w'')
  (C2:∀ w',Calls Tryz.prog 113 #[.int .u64 b] w' fun r w''=>r = .returned (.int .i64 4)∧Below w'.heap.size w' w'') :
  Calls Tryz.prog 167 #[.int .u64 a,.int .u64 b] w fun r w'=>r = .returned (.tuple #[.int .i64 0,.bool false])∧Below w.heap.size w w':=by
 have K1:=hide C1;have K2:=hide C2
 clear C1 C2
 go_enter Tryz.func167,Tryz.ntmps167
 go_wp2_with fail
 refine (uH K1 _).mono ?_
 rintro e w1 ⟨rfl,hb1⟩
 clear K1
 have B1:=hide hb1
 clear hb1
 go_wp2_with fail
 refine (uH K2 _).mono ?_
 rintro e w2 ⟨rfl,hb1⟩
 have B2:=hide ((uH B1).trans (hb1.mono (uH B1).size))
 clear hb1 K2
 go_wp2
 exact bodyPost_ret (v:=.tuple #[.int .i64 0,.bool false]) (by simp [results,Tryz.results167,go_sem]) rfl ⟨rfl,uH B2⟩
theorem order_f (a b:Nat) (ka kb x y o:Int) (w:World) (h4:(ka == 4) = false) (g4:(kb == 4) = false)
  (C1:∀ w',Calls Tryz.prog 113 #[.int .u64 a] w' fun r w''=>r = .returned (.int .i64 ka)∧Below w'.heap.size w' w'')
  (C2:∀ w',Calls Tryz.prog 113 #[.int .u64 b] w' fun r w''=>r = .returned (.int .i64 kb)∧Below w'.heap.size w' w'')
  (C3:∀ w',Calls Tryz.prog 219 #[.int .u64 a] w' fun r w''=>r = .returned (.int .i64 x)∧Below w'.heap.size w' w'')
  (C4:∀ w',Calls Tryz.prog 219 #[.int .u64 b] w' fun r w''=>r = .returned (.int .i64 y)∧Below w'.heap.size w' w'')
  (C5:∀ w',Calls Tryz.prog 218 #[.int .i64 x,.int .i64 y] w' fun r w''=>r = .returned (.int .i64 o)∧w' = w'') :
  Calls Tryz.prog 167 #[.int .u64 a,.int .u64 b] w fun r w'=>r = .returned (.tuple #[.int .i64 o,.bool true])∧Below w.heap.size w w':=by
 have K1:=hide C1;have K2:=hide C2;have K3:=hide C3;have K4:=hide C4;have K5:=hide C5
 clear C1 C2 C3 C4 C5
 go_enter Tryz.func167,Tryz.ntmps167
 go_wp2_with fail
 refine (uH K1 _).mono ?_
 rintro e w1 ⟨rfl,hb1⟩
 have B1:=hide hb1
 clear hb1 K1
 go_wp2_with fail
 refine (uH K2 _).mono ?_
 rintro e w2 ⟨rfl,hb1⟩
 have B2:=hide ((uH B1).trans (hb1.mono (uH B1).size))
 clear hb1 K2
 go_wp2_with fail
 refine (uH K3 _).mono ?_
 rintro e w3 ⟨rfl,hb1⟩
 have B3:=hide ((uH B2).trans (hb1.mono (uH B2).size))
 clear hb1 K3
 go_wp2_with fail
 refine (uH K4 _).mono ?_
 rintro e w4 ⟨rfl,hb1⟩
 have B4:=hide ((uH B3).trans (hb1.mono (uH B3).size))
 clear hb1 K4
 go_wp2_with fail
 refine (uH K5 _).mono ?_
 rintro e w5 ⟨rfl,rfl⟩
 clear K5
 go_wp2
 exact bodyPost_ret (v:=.tuple #[.int .i64 o,.bool true]) (by simp [results,Tryz.results167,go_sem]) rfl ⟨rfl,uH B4⟩
theorem corder_any (a b:Nat) (w:World) (ha:a < 18446744073709551616) (hb:b < 18446744073709551616) :
  Calls Tryz.prog 167 #[.int .u64 a,.int .u64 b] w fun r w'=>r = .returned (.tuple #[.int .i64 (cO a b),.bool (cB a b)])∧Below w.heap.size w w':=by
 have C1:=fun w'=>kind_any a w' ha
 have C2:=fun w'=>kind_any b w' hb
 unfold cO cB
 by_cases a4:fK a = 4
 ·rw [if_pos (Or.inl a4),if_pos (Or.inl a4)]
  rw [a4] at C1
  exact order_n1 a b w C1
 by_cases b4:fK b = 4
 ·rw [if_pos (Or.inr b4),if_pos (Or.inr b4)]
  rw [b4] at C2
  exact order_n2 a b _ w (by simp [a4]) C1 C2
 have h:¬ (fK a = 4 ∨ fK b = 4):=fun h=>h.elim a4 b4
 rw [if_neg h,if_neg h,← pl_cmp]
 exact order_f a b _ _ _ _ _ w (by simp [a4]) (by simp [b4]) C1 C2 (fun w'=>place_any a w' ha) (fun w'=>place_any b w' hb) (fun w'=>cmpl_any _ _ w')
theorem less_of (a b:Nat) (o:Int) (t l q:Bool) (w:World) (hw:(o = 0∧t = false∧l = false∧q = false) ∨ (o = -1∧t = true∧l = true∧q = false) ∨ (o = 0∧t = true∧l = false∧q = true) ∨ (o = 1∧t = true∧l = false∧q = false))
  (C1:∀ w',Calls Tryz.prog 167 #[.int .u64 a,.int .u64 b] w' fun r w''=>r = .returned (.tuple #[.int .i64 o,.bool t])∧Below w'.heap.size w' w'') :
  Calls Tryz.prog 98 #[.int .u64 a,.int .u64 b] w fun r w'=>r = .returned (.bool l)∧Below w.heap.size w w':=by
 have K1:=hide C1
 clear C1
 rcases hw with ⟨rfl,rfl,rfl,rfl⟩ | ⟨rfl,rfl,rfl,rfl⟩ | ⟨rfl,rfl,rfl,rfl⟩ | ⟨rfl,rfl,rfl,rfl⟩
 all_goals
  go_enter Tryz.func98,Tryz.ntmps98
  go_wp2_with fail
  refine (uH K1 _).mono ?_
  rintro e w1 ⟨rfl,hb1⟩
  clear K1
  go_wp2
  go_ret
  exact ⟨rfl,hb1⟩
def cM (a b:Nat) (l t:Bool):Nat:=if t = false then 9221120237041090560 else if l = true then b else a
theorem max_of (a b:Nat) (o:Int) (t l q:Bool) (w:World) (hw:(o = 0∧t = false∧l = false∧q = false) ∨ (o = -1∧t = true∧l = true∧q = false) ∨ (o = 0∧t = true∧l = false∧q = true) ∨ (o = 1∧t = true∧l = false∧q = false))
  (C1:∀ w',Calls Tryz.prog 167 #[.int .u64 a,.int .u64 b] w' fun r w''=>r = .returned (.tuple #[.int .i64 o,.bool t])∧Below w'.heap.size w' w'') :
  Calls Tryz.prog 186 #[.int .u64 a,.int .u64 b] w fun r w'=>r = .returned (.int .u64 (cM a b l t:Nat))∧Below w.heap.size w w':=by
 have K1:=hide C1
 clear C1
 unfold cM
 rcases hw with ⟨rfl,rfl,rfl,rfl⟩ | ⟨rfl,rfl,rfl,rfl⟩ | ⟨rfl,rfl,rfl,rfl⟩ | ⟨rfl,rfl,rfl,rfl⟩
 all_goals
  simp only [if_true,if_false,Bool.false_eq_true,Bool.true_eq_false]
  go_enter Tryz.func186,Tryz.ntmps186
  go_wp2_with fail
  refine (uH K1 _).mono ?_
  rintro e w1 ⟨rfl,hb1⟩
  clear K1
  go_wp2
  go_ret
  exact ⟨rfl,hb1⟩
end Go.Proofs.YtdhmglmccafbnaaGreatDoor
namespace Go.Proofs.YtdhmglmccafbnaaGreatDoor
open Go.RowKit
theorem lng_step (X y:Nat) (hy:0 < y):X * 2 / (2 * y) = 2 * (X / (2 * y))+(if y≤X % (2 * y) then 1 else 0)∧X * 2 % (2 * y) = 2 * (X % (2 * y) - (if y≤X % (2 * y) then y else 0)):=by
 have h1:=Nat.div_add_mod X (2 * y)
 have h2:=Nat.mod_lt X (show 0 < 2 * y by omega)
 generalize X / (2 * y) = q at *
 generalize X % (2 * y) = r at *
 have e0:X * 2 = 2 * y * (2 * q)+2 * r:=by rw [← h1,Nat.add_mul,Nat.mul_assoc,Nat.mul_comm q 2,Nat.mul_comm r 2]
 by_cases c:y≤r
 ·rw [if_pos c,if_pos c]
  have e:X * 2 = 2 * y * (2 * q+1)+2 * (r - y):=by rw [Nat.mul_add,Nat.mul_one];omega
  rw [e]
  refine ⟨?_,?_⟩
  ·rw [Nat.mul_add_div (by omega),Nat.div_eq_of_lt (by omega),Nat.add_zero]
  ·rw [Nat.mul_add_mod,Nat.mod_eq_of_lt (by omega)]
 ·rw [if_neg c,if_neg c]
  rw [e0]
  refine ⟨?_,?_⟩
  ·rw [Nat.mul_add_div (by omega),Nat.div_eq_of_lt (by omega),Nat.add_zero]
  ·rw [Nat.mul_add_mod,Nat.mod_eq_of_lt (by omega)];omega
def lQ (x y i:Nat):Nat:=x * 2 ^ i / (2 * y)
def lR (x y i:Nat):Nat:=x * 2 ^ i % (2 * y)
theorem l_zero (x y:Nat) (h:x < 2 * y):lQ x y 0 = 0∧lR x y 0 = x:=by
 unfold lQ lR
 rw [Nat.pow_zero,Nat.mul_one]
 exact ⟨Nat.div_eq_of_lt h,Nat.mod_eq_of_lt h⟩
theorem l_succ (x y i:Nat) (hy:0 < y):lQ x y (i+1) = 2 * lQ x y i+(if y≤lR x y i then 1 else 0)∧lR x y (i+1) = 2 * (lR x y i - (if y≤lR x y i then y else 0)):=by
 have:=lng_step (x * 2 ^ i) y hy
 unfold lQ lR
 rw [Nat.pow_succ,← Nat.mul_assoc]
 exact this
theorem lR_lt (x y i:Nat) (hy:0 < y):lR x y i < 2 * y:=Nat.mod_lt _ (by omega)
theorem lQ_lt (x y i:Nat) (h:x < 2 * y):lQ x y i < 2 ^ i:=by
 unfold lQ
 rw [Nat.div_lt_iff_lt_mul (by omega),Nat.mul_comm (2 ^ i)]
 exact (Nat.mul_lt_mul_right (Nat.two_pow_pos i)).2 h
theorem l_end (x y:Nat):stk (x * 2 ^ 54) y = 2 * lQ x y 55+(if 0 < lR x y 55 then 1 else 0):=by
 have e:x * 2 ^ 55 = 2 * (x * 2 ^ 54):=by rw [show (2:Nat) ^ 55 = 2 * 2 ^ 54 by decide];ac_rfl
 unfold stk lQ lR
 rw [e,Nat.mul_div_mul_left _ _ (by decide),Nat.mul_mod_mul_left]
 congr 1
 by_cases c:x * 2 ^ 54 % y = 0
 ·rw [if_pos c,c,if_neg (by omega)]
 ·rw [if_neg c,if_pos (by omega)]
def dS (b:Nat):Nat:=(fD b).natAbs * 2 ^ (53 - bl (fD b).natAbs)
def dT (b:Nat):Int:=(bl (fD b).natAbs:Int)+fX b
theorem dS_facts (b:Nat) (hb:b < 18446744073709551616) (hf:fFin b = true) (h0:fK b ≠ 0) :
  bl (fD b).natAbs≤53∧1≤bl (fD b).natAbs∧4503599627370496≤dS b∧dS b < 9007199254740992∧-1074≤fX b∧fX b≤1024∧(fD b).natAbs % 2 = 1∧(fD b).natAbs < 9007199254740992:=by
 obtain ⟨β,x1,x2,x3,x4⟩:=odd_mag b hb hf h0
 have hne:(fD b).natAbs ≠ 0:=by omega
 obtain ⟨b1,b2,b3⟩:=bl_spec _ hne
 have hbl:bl (fD b).natAbs≤53:=by
  have:(2:Nat) ^ (bl (fD b).natAbs - 1) < 2 ^ 53:=by rw [p53];omega
  have:=pow_lt_of this
  omega
 have hs:=bl_scale (fD b).natAbs (53 - bl (fD b).natAbs) hne
 have hs':bl (dS b) = 53:=by unfold dS;rw [hs];omega
 have hd0:dS b ≠ 0:=by
  unfold dS
  exact Nat.mul_ne_zero hne (Nat.pos_iff_ne_zero.1 (Nat.two_pow_pos _))
 obtain ⟨c1,c2,c3⟩:=bl_spec _ hd0
 rw [hs'] at c2 c3
 have hz:=fZ_lt b hf
 rw [fZ_abs,x2] at hz
 have hβ:β < 2098:=by
  have h1:2 ^ β≤(fD b).natAbs * 2 ^ β:=Nat.le_mul_of_pos_left _ (by omega)
  exact pow_lt_of (Nat.lt_of_le_of_lt h1 hz)
 refine ⟨hbl,b1,?_,?_,by omega,by omega,x3,x4⟩
 ·exact c2
 ·rw [p53] at c3;exact c3
def pS (a b:Nat):Nat:=stk (dS a * 2 ^ 54) (dS b)
theorem quo_prog (a b:Nat) (ha:a < 18446744073709551616) (hb:b < 18446744073709551616) (fa:fFin a = true) (fb:fFin b = true) (a0:fK a ≠ 0) (b0:fK b ≠ 0) :
  rnd (pS a b) (dT a - dT b - 55) = qV a b∧rflag (oM (pS a b:Nat)).natAbs (oE (pS a b:Nat) (dT a - dT b - 55)) = qF a b:=by
 obtain ⟨x1,x2,x3,x4,x5,x6,x7,x8⟩:=dS_facts a ha fa a0
 obtain ⟨y1,y2,y3,y4,y5,y6,y7,y8⟩:=dS_facts b hb fb b0
 have hbig:=quo_big (fD a).natAbs (fD b).natAbs (by omega) y8 (by omega)
 obtain ⟨u1,u2,u3⟩:=bl_spec (fD a).natAbs (by omega)
 obtain ⟨v1,v2,v3⟩:=bl_spec (fD b).natAbs (by omega)
 unfold pS qV qF qS dS dT
 generalize (fD a).natAbs = oa at *
 generalize (fD b).natAbs = ob at *
 have e1:oa * 2 ^ (53 - bl oa) * 2 ^ 54 = oa * 2 ^ (54 - bl oa+bl ob) * 2 ^ (53 - bl ob):=by
  rw [Nat.mul_assoc,← Nat.pow_add,Nat.mul_assoc,← Nat.pow_add]
  congr 2
  omega
 have hb54:54 - bl oa+bl ob = 54+bl ob - bl oa:=by omega
 rw [e1,stk_both]
 have hq:9007199254740992≤oa * 2 ^ (54 - bl oa+bl ob) / ob:=by
  rw [Nat.le_div_iff_mul_le (by omega)]
  have h1:9007199254740992 * ob≤2 ^ 53 * 2 ^ bl ob:=by rw [p53];exact Nat.mul_le_mul_left _ (by omega)
  have h2:(2:Nat) ^ 53 * 2 ^ bl ob≤2 ^ (bl oa - 1) * 2 ^ (54 - bl oa+bl ob):=by
   rw [← Nat.pow_add,← Nat.pow_add];exact pow_le2 (by omega)
  have h3:2 ^ (bl oa - 1) * 2 ^ (54 - bl oa+bl ob)≤oa * 2 ^ (54 - bl oa+bl ob):=Nat.mul_le_mul_right _ u2
  omega
 have E1:(bl oa:Int)+fX a - ((bl ob:Int)+fX b) - 55 = (fX a - fX b - 1) - (54 - bl oa+bl ob:Nat):=by omega
 have E2:fX a - fX b - 181 = (fX a - fX b - 1) - (180:Nat):=by omega
 rw [E1,E2]
 exact ⟨stk_any oa ob _ 180 _ (by omega) hq hbig,stk_any_flag oa ob _ 180 _ y7 hq hbig⟩
theorem pS_facts (a b:Nat) (ha:a < 18446744073709551616) (hb:b < 18446744073709551616) (fa:fFin a = true) (fb:fFin b = true) (a0:fK a ≠ 0) (b0:fK b ≠ 0):pS a b ≠ 0∧pS a b < 144115188075855872∧dS a < 2 * dS b:=by
 obtain ⟨x1,x2,x3,x4,x5,x6,x7,x8⟩:=dS_facts a ha fa a0
 obtain ⟨y1,y2,y3,y4,y5,y6,y7,y8⟩:=dS_facts b hb fb b0
 have h:=l_end (dS a) (dS b)
 have h1:=lQ_lt (dS a) (dS b) 55 (by omega)
 have h2:(2:Nat) ^ 55 = 36028797018963968:=by decide
 have ht:(if 0 < lR (dS a) (dS b) 55 then 1 else 0)≤1:=by split <;> omega
 refine ⟨?_,?_,by omega⟩
 ·have:1≤dS a * 2 ^ 54 / dS b:=by
   rw [Nat.le_div_iff_mul_le (by omega),Nat.one_mul]
   have:dS a * 1≤dS a * 2 ^ 54:=Nat.mul_le_mul_left _ (by decide)
   have h5:dS a * 2≤dS a * 2 ^ 54:=Nat.mul_le_mul_left _ (by decide)
   omega
  unfold pS stk
  omega
 ·show stk (dS a * 2 ^ 54) (dS b) < _
  rw [h];omega
end Go.Proofs.YtdhmglmccafbnaaGreatDoor
namespace Go.Proofs.YtdhmglmccafbnaaGreatDoor
open Go.RowKit
theorem fZ_neg8 (b:Nat) (h0:fK b ≠ 0):fZ b ≠ 0∧decide (fZ b < 0) = fS b:=by
 have hr:fR b ≠ 0:=fun e=>h0 ((fK_zero b).2 e)
 have hp:0 < rv (fR b):=rv_pos (by omega)
 unfold fZ pv
 cases fS b
 ·simp only [Bool.false_eq_true,if_false]
  exact ⟨by omega,decide_eq_false (by omega)⟩
 ·simp only [if_true]
  exact ⟨by omega,decide_eq_true (by omega)⟩
theorem sc_facts (a:Nat) (ha:a < 18446744073709551616) (fa:fFin a = true) (a0:fK a ≠ 0) :
  fD a % 2 = 1∧(fD a).natAbs < 9007199254740992∧(fD a).natAbs ≠ 0∧decide (fD a < 0) = fS a∧-1074≤fX a∧fX a≤1024∧1≤bl (fD a).natAbs∧(bl (fD a).natAbs:Int)+fX a≤1024∧rnd (rv (fR a)) (-1074) = rnd (fD a).natAbs (fX a):=by
 obtain ⟨β,x1,x2,x3,x4⟩:=odd_mag a ha fa a0
 obtain ⟨y1,y2,y3,y4,y5,y6,y7,y8⟩:=dS_facts a ha fa a0
 obtain ⟨d1,d2⟩:=fZ_level a ha fa
 obtain ⟨n1,n2⟩:=fZ_neg8 a a0
 have hne:(fD a).natAbs ≠ 0:=by omega
 have hb:bl (rv (fR a)) = bl (fD a).natAbs+β:=by rw [x2];exact bl_scale _ _ hne
 have hlt:=fZ_lt a fa
 rw [fZ_abs] at hlt
 have hne2:rv (fR a) ≠ 0:=by rw [← fZ_abs];omega
 have hb2:bl (rv (fR a))≤2098:=by
  obtain ⟨b1,b2,b3⟩:=bl_spec _ hne2
  have:=pow_lt_of (Nat.lt_of_le_of_lt b2 hlt)
  omega
 refine ⟨by omega,x4,hne,?_,y5,y6,y2,by omega,?_⟩
 ·rw [← d1,oM_sign];exact n2
 ·rw [x2,x1,rnd_scale]
theorem scale_clampC (C:Int) (hC:2098 < C) (v:Nat) (E n:Int) (hv:v ≠ 0) (h1:(bl v:Int)+E≤1024) (h2:-1074≤(bl v:Int)+E) :
  rnd v (E+n) = rnd v (E+max (-C) (min C n))∧rflag v (E+n) = rflag v (E+max (-C) (min C n)):=by
 rcases Int.lt_or_le C n with h | h
 ·have a:=rnd_high hv (E:=E+n) (by omega)
  have b:=rnd_high hv (E:=E+max (-C) (min C n)) (by omega)
  rw [a.1,a.2,b.1,b.2]
  exact ⟨rfl,rfl⟩
 ·rcases Int.lt_or_le n (-C) with g | g
  ·have a:=rnd_low hv (E:=E+n) (by omega)
   have b:=rnd_low hv (E:=E+max (-C) (min C n)) (by omega)
   rw [a.1,a.2,b.1,b.2]
   exact ⟨rfl,rfl⟩
  ·rw [show max (-C) (min C n) = n by omega]
   exact ⟨rfl,rfl⟩
def xV (a:Nat) (n:Int):Nat:=if fK a = 4 then 9221120237041090560 else if fK a = 3 ∨ fK a = 0 then a else wrd (fS a) (rnd (fD a).natAbs (fX a+n))
def xF (a:Nat) (n:Int):Int:=if fK a = 4 then 0 else if fK a = 3 ∨ fK a = 0 then 0 else rflag (fD a).natAbs (fX a+n)
theorem xV_lt (a:Nat) (n:Int) (ha:a < 18446744073709551616):xV a n < 18446744073709551616:=by
 unfold xV
 have:=rnd_le (fD a).natAbs (fX a+n)
 repeat' split
 ·decide
 ·exact ha
 ·exact wrd_lt _ _ (by omega)
theorem xV_clamp (C:Int) (hC:2098 < C) (a:Nat) (n:Int) (ha:a < 18446744073709551616):xV a (max (-C) (min C n)) = xV a n∧xF a (max (-C) (min C n)) = xF a n:=by
 unfold xV xF
 by_cases a4:fK a = 4
 ·rw [if_pos a4,if_pos a4,if_pos a4,if_pos a4];exact ⟨rfl,rfl⟩
 by_cases a3:fK a = 3 ∨ fK a = 0
 ·rw [if_neg a4,if_neg a4,if_neg a4,if_neg a4,if_pos a3,if_pos a3,if_pos a3,if_pos a3];exact ⟨rfl,rfl⟩
 ·rw [if_neg a4,if_neg a4,if_neg a4,if_neg a4,if_neg a3,if_neg a3,if_neg a3,if_neg a3]
  obtain ⟨z1,z2,z3,z4,z5,z6,z7,z8,z9⟩:=sc_facts a ha (fin_of a (by omega) a4) (by omega)
  have:=scale_clampC C hC _ _ n z3 z8 (by omega)
  rw [this.1,this.2]
  exact ⟨rfl,rfl⟩
theorem odd_dRt {D E:Int} (h:D % 2 = 1) (hE:-16384≤E∧E≤16384):dRt D E = true:=by
 unfold dRt
 rw [if_neg (by omega),decide_eq_true h,decide_eq_true hE];rfl
theorem odd8_oM {D:Int} (h:D % 2 = 1):oM D = D∧∀ e,oE D e = e:=by
 have h0:D ≠ 0:=by omega
 have h1:=oM_ne D h0
 have:=(oddOf D h0).unique (m':=D) (k':=0) ⟨by simp,h⟩
 refine ⟨this.1,fun e=>?_⟩
 rw [oE_ne _ _ h0,this.2];simp
theorem odd_tz {D:Int} (h:D % 2 = 1):tz D.natAbs = 0:=by
 have h0:D ≠ 0:=by omega
 exact ((oddOf D h0).unique (m':=D) (k':=0) ⟨by simp,h⟩).2
theorem dscaleN {w:World} {v:Value} {D X:Int} (n:Int) (hv:IsDy w v D X) (h1:D % 2 = 1) (h2:D.natAbs < 9007199254740992) (h3:-1074≤X∧X≤1024) (h4:-5000≤n∧n≤5000) (hT:Tab w) :
  Calls Tryz.prog 250 #[v,.int .i64 n] w fun r w'=>DyR w' r 0 D (X+n)∧Below w.heap.size w w':=by
 obtain ⟨na,ao,ca,A,rfl,a1,a2,a3,a4,a5⟩:=hv.right (small_TOP _ (by omega))
 have:=dscale_right na ao ca A X n w a1 (a5.trans (odd_dRt h1 (by omega))) (by omega) hT
 have hok:dOk D (X+n) = true:=by
  unfold dOk
  rw [odd_tz h1,decide_eq_true (show -32768≤X+n∧X+n≤32768 by omega),decide_eq_true (show -16384≤X+n+((0:Nat):Int)∧X+n+((0:Nat):Int)≤16384 by omega),Bool.or_true]
  rfl
 rw [a3] at this
 unfold dErr dM dX at this
 rw [hok,if_pos rfl,if_pos rfl,if_pos rfl,(odd8_oM h1).1,(odd8_oM h1).2] at this
 exact this
theorem scaleFinite_of (a o:Nat) (n D X Y fl:Int) (w:World) (hT:Tab w)
  (C1:∀ w',Tab w'→Calls Tryz.prog 207 #[.int .u64 a] w' fun r w''=>DyR w'' r 0 D X∧Below w'.heap.size w' w'')
  (C2:∀ w' v,Tab w'→IsDy w' v D X→Calls Tryz.prog 250 #[v,.int .i64 n] w' fun r w''=>DyR w'' r 0 D Y∧Below w'.heap.size w' w'')
  (C3:∀ w' v,Tab w'→IsDy w' v D Y→Calls Tryz.prog 251 #[v] w' fun r w''=>r = .returned (.tuple #[.int .u64 (o:Nat),.int .u8 fl,.int .i64 0])∧Below w'.heap.size w' w'') :
  Calls Tryz.prog 220 #[.int .u64 a,.int .i64 n] w fun r w'=>r = .returned (.tuple #[.int .u64 (o:Nat),.int .u8 fl])∧Below w.heap.size w w':=by
 have K1:=hide C1;have K2:=hide C2;have K3:=hide C3;have HT:=hide hT
 clear C1 C2 C3 hT
 go_enter Tryz.func220,Tryz.ntmps220
 go_wp2_with fail
 refine (uH K1 _ (uH HT)).mono ?_
 rintro e w1 ⟨⟨v,rfl,hv⟩,hb1⟩
 obtain ⟨n1,a1,c1,L1,rfl,i1⟩:=hv
 have hb1a:Below w1.heap.size w1 (w1.alloc (.cells #[.bool n1,.slice a1 L1.length c1,.int .i64 X] 41)):=(Below.refl _ _).alloc (Nat.le_refl _) _
 have HX:=hide ((show IsDy w1 (.agg #[.bool n1,.slice a1 L1.length c1,.int .i64 X]) D X from ⟨n1,a1,c1,L1,rfl,i1⟩).below hb1a)
 have B1:=hide (hb1.trans (hb1a.mono hb1.size))
 have x3:=Box3.new w1 (.bool n1) (.slice a1 L1.length c1) (.int .i64 X)
 have y0:=x3.c0;have y1:=x3.c1;have y2:=x3.c2
 clear i1 hb1 hb1a K1 x3
 generalize L1.length = l1 at *
 go_wp2_with fail
 refine (uH K2 _ _ ((uH HT).all (uH B1)) (uH HX)).mono ?_
 rintro e w2 ⟨⟨v,rfl,hv⟩,hb1⟩
 obtain ⟨n2,a2,c2,L2,rfl,i2⟩:=hv
 have hb1a:Below w2.heap.size w2 (w2.alloc (.cells #[.bool n2,.slice a2 L2.length c2,.int .i64 Y] 41)):=(Below.refl _ _).alloc (Nat.le_refl _) _
 have HY:=hide ((show IsDy w2 (.agg #[.bool n2,.slice a2 L2.length c2,.int .i64 Y]) D Y from ⟨n2,a2,c2,L2,rfl,i2⟩).below hb1a)
 have B2:=hide ((uH B1).trans ((hb1.trans (hb1a.mono hb1.size)).mono (uH B1).size))
 have x3:=Box3.new w2 (.bool n2) (.slice a2 L2.length c2) (.int .i64 Y)
 have z0:=x3.c0;have z1:=x3.c1;have z2:=x3.c2
 clear i2 hb1 hb1a K2 x3 y0 y1 y2 HX B1
 generalize L2.length = l2 at *
 go_wp2_with fail
 refine (uH K3 _ _ ((uH HT).all (uH B2)) (uH HY)).mono ?_
 rintro e w3 ⟨rfl,hb1⟩
 have B3:=hide ((uH B2).trans (hb1.mono (uH B2).size))
 clear hb1 K3 B2 z0 z1 z2 HY
 go_wp2
 exact bodyPost_ret (v:=.tuple #[.int .u64 o,.int .u8 fl]) (by simp [results,Tryz.results220,go_sem]) rfl ⟨rfl,uH B3⟩
theorem scaleFinite_any (a:Nat) (n:Int) (w:World) (ha:a < 18446744073709551616) (fa:fFin a = true) (a0:fK a ≠ 0) (hn:-5000≤n∧n≤5000) (hT:Tab w) :
  Calls Tryz.prog 220 #[.int .u64 a,.int .i64 n] w fun r w'=>r = .returned (.tuple #[.int .u64 (wrd (fS a) (rnd (fD a).natAbs (fX a+n)):Nat),.int .u8 (rflag (fD a).natAbs (fX a+n))])∧Below w.heap.size w w':=by
 obtain ⟨z1,z2,z3,z4,z5,z6,z7,z8,z9⟩:=sc_facts a ha fa a0
 have C3:∀ w' v,Tab w'→IsDy w' v (fD a) (fX a+n)→_:=fun w' v t hv=>round_dy hv (small_TOP _ (by omega)) (odd_dRt z1 (by omega)) t
 rw [z4] at C3
 exact scaleFinite_of a _ n (fD a) (fX a) (fX a+n) _ w hT (fun w' t=>value_some a w' ha fa t) (fun w' v t hv=>dscaleN n hv z1 z2 (by omega) hn t) C3
theorem scale_n (a:Nat) (n:Int) (w:World)
  (C1:∀ w',Calls Tryz.prog 113 #[.int .u64 a] w' fun r w''=>r = .returned (.int .i64 4)∧Below w'.heap.size w' w'') :
  Calls Tryz.prog 168 #[.int .u64 a,.int .i64 n] w fun r w'=>r = .returned (.tuple #[.int .u64 9221120237041090560,.int .u8 0])∧Below w.heap.size w w':=by
 have K1:=hide C1
 clear C1
 go_enter Tryz.func168,Tryz.ntmps168
 go_wp2_with fail
 refine (uH K1 _).mono ?_
 rintro e w1 ⟨rfl,hb1⟩
 clear K1
 go_wp2
 exact bodyPost_ret (v:=.tuple #[.int .u64 9221120237041090560,.int .u8 0]) (by simp [results,Tryz.results168,go_sem]) rfl ⟨rfl,hb1⟩
theorem scale_iz (a:Nat) (n k:Int) (w:World) (hk:k = 3 ∨ k = 0)
  (C1:∀ w',Calls Tryz.prog 113 #[.int .u64 a] w' fun r w''=>r = .returned (.int .i64 k)∧Below w'.heap.size w' w'') :
  Calls Tryz.prog 168 #[.int .u64 a,.int .i64 n] w fun r w'=>r = .returned (.tuple #[.int .u64 (a:Nat),.int .u8 0])∧Below w.heap.size w w':=by
 have K1:=hide C1
 clear C1
 rcases hk with rfl | rfl
 ·go_enter Tryz.func168,Tryz.ntmps168
  go_wp2_with fail
  refine (uH K1 _).mono ?_
  rintro e w1 ⟨rfl,hb1⟩
  clear K1
  go_wp2
  exact bodyPost_ret (v:=.tuple #[.int .u64 (a:Nat),.int .u8 0]) (by simp [results,Tryz.results168,go_sem]) rfl ⟨rfl,hb1⟩
 ·go_enter Tryz.func168,Tryz.ntmps168
  go_wp2_with fail
  refine (uH K1 _).mono ?_
  rintro e w1 ⟨rfl,hb1⟩
  clear K1
  go_wp2
  exact bodyPost_ret (v:=.tuple #[.int .u64 (a:Nat),.int .u8 0]) (by simp [results,Tryz.results168,go_sem]) rfl ⟨rfl,hb1⟩
theorem min2_run (P:Program) (w:World) (ts:Array TypeId) (t:TypeId) (x y:Int):(Builtin.min_ ts t #[.int .i64 x,.int .i64 y]).run P w = .ok (.int .i64 (min x y)) w:=by
 rw [run_min_int2]
 congr 2
 split <;> omega
theorem scale_f (a o:Nat) (n k m c fl:Int) (w:World) (h4:(k == 4) = false) (h3:(k == 3) = false) (h0:(k == 0) = false) (hT:Tab w)
  (hM:∀ W ts t,(Builtin.max_ ts t #[.int .i64 n,.int .i64 (-4096)]).run Tryz.prog W = .ok (.int .i64 m) W)
  (hN:∀ W ts t,(Builtin.min_ ts t #[.int .i64 m,.int .i64 4096]).run Tryz.prog W = .ok (.int .i64 c) W)
  (C1:∀ w',Calls Tryz.prog 113 #[.int .u64 a] w' fun r w''=>r = .returned (.int .i64 k)∧Below w'.heap.size w' w'')
  (C2:∀ w',Tab w'→Calls Tryz.prog 220 #[.int .u64 a,.int .i64 c] w' fun r w''=>r = .returned (.tuple #[.int .u64 (o:Nat),.int .u8 fl])∧Below w'.heap.size w' w'') :
  Calls Tryz.prog 168 #[.int .u64 a,.int .i64 n] w fun r w'=>r = .returned (.tuple #[.int .u64 (o:Nat),.int .u8 fl])∧Below w.heap.size w w':=by
 have K1:=hide C1;have K2:=hide C2;have HT:=hide hT
 clear C1 C2 hT
 go_enter Tryz.func168,Tryz.ntmps168
 go_wp2_with fail
 refine (uH K1 _).mono ?_
 rintro e w1 ⟨rfl,hb1⟩
 have B1:=hide hb1
 clear K1 hb1
 go_wp2_with fail
 refine (uH K2 _ ((uH HT).all (uH B1))).mono ?_
 rintro e w2 ⟨rfl,hb1⟩
 have B2:=hide ((uH B1).trans (hb1.mono (uH B1).size))
 clear K2 hb1 B1 HT
 go_wp2
 exact bodyPost_ret (v:=.tuple #[.int .u64 (o:Nat),.int .u8 fl]) (by simp [results,Tryz.results168,go_sem]) rfl ⟨rfl,uH B2⟩
theorem cscale_any (a:Nat) (n:Int) (w:World) (ha:a < 18446744073709551616) (hT:Tab w) :
  Calls Tryz.prog 168 #[.int .u64 a,.int .i64 n] w fun r w'=>r = .returned (.tuple #[.int .u64 (xV a n:Nat),.int .u8 (xF a n)])∧Below w.heap.size w w':=by
 have C1:=fun w'=>kind_any a w' ha
 by_cases a4:fK a = 4
 ·unfold xV xF
  rw [if_pos a4,if_pos a4]
  rw [a4] at C1
  exact scale_n a n w C1
 by_cases a3:fK a = 3 ∨ fK a = 0
 ·unfold xV xF
  rw [if_neg a4,if_neg a4,if_pos a3,if_pos a3]
  exact scale_iz a n _ w a3 C1
 ·have fa:=fin_of a (by omega) a4
  have e:=xV_clamp 4096 (by decide) a n ha
  rw [show max (-4096) (min 4096 n) = min (max n (-4096)) 4096 by omega] at e
  rw [← e.1,← e.2]
  unfold xV xF
  rw [if_neg a4,if_neg a4,if_neg a3,if_neg a3]
  exact scale_f a _ n _ (max n (-4096)) (min (max n (-4096)) 4096) _ w (by simp [a4]) (by simp;omega) (by simp;omega) hT (fun W ts t=>max2_run _ W ts t _ _) (fun W ts t=>min2_run _ W ts t _ _) C1 (fun w' t=>scaleFinite_any a _ w' ha fa (by omega) (by omega) t)
end Go.Proofs.YtdhmglmccafbnaaGreatDoor
namespace Go.Proofs.YtdhmglmccafbnaaGreatDoor
open Go.RowKit
theorem exp_0 (a:Nat) (k:Int) (w:World) (hk:k = 4 ∨ k = 3 ∨ k = 0)
  (C1:∀ w',Calls Tryz.prog 113 #[.int .u64 a] w' fun r w''=>r = .returned (.int .i64 k)∧Below w'.heap.size w' w'') :
  Calls Tryz.prog 153 #[.int .u64 a] w fun r w'=>r = .returned (.int .i64 0)∧Below w.heap.size w w':=by
 have K1:=hide C1
 clear C1
 rcases hk with rfl | rfl | rfl
 all_goals
  go_enter Tryz.func153,Tryz.ntmps153
  go_wp2_with fail
  refine (uH K1 _).mono ?_
  rintro e w1 ⟨rfl,hb1⟩
  clear K1
  go_wp2
  go_ret
  exact ⟨rfl,hb1⟩
theorem exp_f (a:Nat) (k D X t:Int) (w:World) (h4:(k == 4) = false) (h3:(k == 3) = false) (h0:(k == 0) = false) (ht:-2000≤t∧t≤2000) (hT:Tab w)
  (C1:∀ w',Calls Tryz.prog 113 #[.int .u64 a] w' fun r w''=>r = .returned (.int .i64 k)∧Below w'.heap.size w' w'')
  (C2:∀ w',Tab w'→Calls Tryz.prog 207 #[.int .u64 a] w' fun r w''=>DyR w'' r 0 D X∧Below w'.heap.size w' w'')
  (C3:∀ w' v,IsDy w' v D X→Calls Tryz.prog 208 #[v] w' fun r w''=>r = .returned (.int .i64 t)∧Below w'.heap.size w' w'') :
  Calls Tryz.prog 153 #[.int .u64 a] w fun r w'=>r = .returned (.int .i64 (t - 1))∧Below w.heap.size w w':=by
 have K1:=hide C1;have K2:=hide C2;have K3:=hide C3;have HT:=hide hT
 clear C1 C2 C3 hT
 have hw:=wrap_small (t - 1) (by omega)
 go_enter Tryz.func153,Tryz.ntmps153
 go_wp2_with fail
 refine (uH K1 _).mono ?_
 rintro e w1 ⟨rfl,hb1⟩
 have B1:=hide hb1
 clear K1 hb1
 go_wp2_with fail
 refine (uH K2 _ ((uH HT).all (uH B1))).mono ?_
 rintro e w2 ⟨⟨v,rfl,hv⟩,hb1⟩
 obtain ⟨n2,a2,c2,L2,rfl,i2⟩:=hv
 have hb1a:Below w2.heap.size w2 (w2.alloc (.cells #[.bool n2,.slice a2 L2.length c2,.int .i64 X] 41)):=(Below.refl _ _).alloc (Nat.le_refl _) _
 have HY:=hide ((show IsDy w2 (.agg #[.bool n2,.slice a2 L2.length c2,.int .i64 X]) D X from ⟨n2,a2,c2,L2,rfl,i2⟩).below hb1a)
 have B2:=hide ((uH B1).trans ((hb1.trans (hb1a.mono hb1.size)).mono (uH B1).size))
 have x3:=Box3.new w2 (.bool n2) (.slice a2 L2.length c2) (.int .i64 X)
 have z0:=x3.c0;have z1:=x3.c1;have z2:=x3.c2
 clear i2 hb1 hb1a K2 x3 B1
 generalize L2.length = l2 at *
 go_wp2_with fail
 refine (uH K3 _ _ (uH HY)).mono ?_
 rintro e w3 ⟨rfl,hb1⟩
 have B3:=hide ((uH B2).trans (hb1.mono (uH B2).size))
 clear hb1 K3 B2 z0 z1 z2 HY
 go_wp2
 go_ret
 exact ⟨rfl,uH B3⟩
theorem bl_le53 {v:Nat} (h:v < 9007199254740992):bl v≤53:=by
 by_cases h0:v = 0
 ·subst h0;decide
 ·obtain ⟨b1,b2,b3⟩:=bl_spec v h0
  have:=pow_lt_of (Nat.lt_of_le_of_lt b2 (by rw [p53];exact h))
  omega
theorem dtopN {w:World} {v:Value} {D X:Int} (hv:IsDy w v D X) (h1:D % 2 = 1) (h2:D.natAbs < 9007199254740992) (h3:-1074≤X∧X≤1024) :
  Calls Tryz.prog 208 #[v] w fun r w'=>r = .returned (.int .i64 ((bl D.natAbs:Int)+X))∧Below w.heap.size w w':=by
 obtain ⟨na,ao,ca,A,rfl,a1,a2,a3,a4,a5⟩:=hv.right (small_TOP _ (by omega))
 have:=dtop_any na ao ca A X w a1 (by omega)
 have hd:drB na A X = true:=a5.trans (odd_dRt h1 (by omega))
 have hv:val A = D.natAbs:=by rw [← a3,natAbs_sval]
 have hl:=lenL_bl a1.2.1 a2
 have hb:bl D.natAbs≤53:=bl_le53 h2
 rw [hl,hv,wrap_small _ (by omega)] at this
 exact this
def eX (a:Nat):Int:=if fK a = 4 ∨ fK a = 3 ∨ fK a = 0 then 0 else (bl (fD a).natAbs:Int)+fX a - 1
theorem cexp_any (a:Nat) (w:World) (ha:a < 18446744073709551616) (hT:Tab w) :
  Calls Tryz.prog 153 #[.int .u64 a] w fun r w'=>r = .returned (.int .i64 (eX a))∧Below w.heap.size w w':=by
 have C1:=fun w'=>kind_any a w' ha
 unfold eX
 by_cases h:fK a = 4 ∨ fK a = 3 ∨ fK a = 0
 ·rw [if_pos h]
  exact exp_0 a _ w h C1
 ·rw [if_neg h]
  have fa:=fin_of a (by omega) (by omega)
  obtain ⟨z1,z2,z3,z4,z5,z6,z7,z8,z9⟩:=sc_facts a ha fa (by omega)
  exact exp_f a _ (fD a) (fX a) _ w (by simp;omega) (by simp;omega) (by simp;omega) (by omega) hT C1 (fun w' t=>value_some a w' ha fa t) (fun w' v hv=>dtopN hv z1 z2 (by omega))
end Go.Proofs.YtdhmglmccafbnaaGreatDoor
namespace Go.Proofs.YtdhmglmccafbnaaGreatDoor
open Go.RowKit
def mx (a b:Nat):Nat:=if fK a = 4 ∨ fK b = 4 then 9221120237041090560 else if fZ a < fZ b then b else a
theorem mag_fZ (r:Nat) (h:r < 9223372036854775808):fZ r = (rv r:Int)∧fR r = r∧fS r = false:=by
 have h1:fR r = r:=by unfold fR;omega
 have h2:fS r = false:=decide_eq_false (by omega)
 refine ⟨?_,h1,h2⟩
 unfold fZ pv
 rw [h1,h2]
 rfl
end Go.Proofs.YtdhmglmccafbnaaGreatDoor
namespace Go.Proofs.YtdhmglmccafbnaaGreatDoor
open Go.RowKit
def gw (ε:Rat):Nat→Rat
 | 0=>1
 | k+1=>(1+2 * ε) * gw ε k
def bk (ε:Rat):Nat→Rat
 | 0=>0
 | k+1=>3+(1+2 * ε) * (1+2 * ε) * bk ε k
def er (ε δ:Rat):Nat→Rat
 | 0=>0
 | k+1=>gw ε k+er ε δ k * (1+2 * ε+δ)
end Go.Proofs.YtdhmglmccafbnaaGreatDoor
namespace Go.Proofs.YtdhmglmccafbnaaGreatDoor
open Go.RowKit
def aO (s t:Bool):Nat:=if (s && t) = true then 9223372036854775808 else 0
theorem nought_any (a b:Nat) (w:World) (ha:a < 18446744073709551616) (hb:b < 18446744073709551616) :
  Calls Tryz.prog 296 #[.int .u64 a,.int .u64 b] w fun e w'=>e = .returned (.int .u64 (aO (fS a) (fS b):Nat))∧Below w.heap.size w w':=by
 have C1:=hide (fun w'=>ssign_any a w' ha)
 have C2:=hide (fun w'=>ssign_any b w' hb)
 generalize fS a = s at *
 generalize fS b = t at *
 clear ha hb
 go_enter Tryz.func296,Tryz.ntmps296
 go_wp2_with fail
 refine (uH C1 _).mono ?_
 rintro e w1 ⟨rfl,hb1⟩
 cases s
 ·go_wp2
  go_ret
  exact ⟨rfl,hb1⟩
 ·go_wp2_with fail
  refine (uH C2 _).mono ?_
  rintro e w2 ⟨rfl,hb2⟩
  cases t
  ·go_wp2
   go_ret
   exact ⟨rfl,hb1.trans (hb2.mono hb1.size)⟩
  ·go_wp2
   go_ret
   exact ⟨rfl,hb1.trans (hb2.mono hb1.size)⟩
theorem dy_len {w:World} {n:Bool} {a:Option Addr} {l c:Nat} {e m X:Int} (h:IsDy w (.agg #[.bool n,.slice a l c,.int .i64 e]) m X):((l:Int) == 0) = decide (m = 0):=by
 obtain ⟨n',a',c',L',e1,_,e3,_,e5,_⟩:=h.parts
 simp only [Value.agg.injEq,Array.mk.injEq,List.cons.injEq,Value.slice.injEq] at e1
 have e2:=e1.2.1.2.1
 by_cases h0:m = 0
 ·have:L' = []:=(val_zero_of_canon L' e3).1 (by rw [e5,h0];rfl)
  rw [decide_eq_true h0,e2,this];rfl
 ·have:L'.length ≠ 0:=fun h1=>by
   have:L' = []:=List.length_eq_zero_iff.1 h1
   rw [this] at e5
   simp [val] at e5
   omega
  rw [decide_eq_false h0];simp;omega
theorem addFinite_z (a b:Nat) (z1 z2 X1 X2 X3:Int) (w:World) (o:Nat)
  (C1:∀ w',Below w.heap.size w w'→Calls Tryz.prog 207 #[.int .u64 a] w' fun r w''=>DyR w'' r 0 z1 X1∧Below w'.heap.size w' w'')
  (C2:∀ w',Below w.heap.size w w'→Calls Tryz.prog 207 #[.int .u64 b] w' fun r w''=>DyR w'' r 0 z2 X2∧Below w'.heap.size w' w'')
  (C3:∀ w' v u,Below w.heap.size w w'→IsDy w' v z1 X1→IsDy w' u z2 X2→Calls Tryz.prog 295 #[v,u] w' fun r w''=>DyR w'' r 0 0 X3∧Below w'.heap.size w' w'')
  (C4:∀ w',Calls Tryz.prog 296 #[.int .u64 a,.int .u64 b] w' fun r w''=>r = .returned (.int .u64 (o:Nat))∧Below w'.heap.size w' w'') :
  Calls Tryz.prog 277 #[.int .u64 a,.int .u64 b] w fun r w'=>r = .returned (.tuple #[.int .u64 (o:Nat),.int .u8 0])∧Below w.heap.size w w':=by
 have K1:=hide C1;have K2:=hide C2;have K3:=hide C3;have K4:=hide C4
 clear C1 C2 C3 C4
 go_enter Tryz.func277,Tryz.ntmps277
 go_wp2_with fail
 refine (uH K1 _ (Below.refl _ _)).mono ?_
 rintro e w1 ⟨⟨v,rfl,hv⟩,hb1⟩
 obtain ⟨n1,a1,c1,L1,rfl,i1⟩:=hv
 have hb1a:Below w1.heap.size w1 (w1.alloc (.cells #[.bool n1,.slice a1 L1.length c1,.int .i64 X1] 41)):=(Below.refl _ _).alloc (Nat.le_refl _) _
 have HV:=hide ((show IsDy w1 (.agg #[.bool n1,.slice a1 L1.length c1,.int .i64 X1]) z1 X1 from ⟨n1,a1,c1,L1,rfl,i1⟩).below hb1a)
 have X:=hide (Box3.new w1 (.bool n1) (.slice a1 L1.length c1) (.int .i64 X1))
 have B1:=hide (hb1.trans (hb1a.mono hb1.size))
 clear i1 hb1 hb1a K1
 go_wp2_with fail
 refine (uH K2 _ (uH B1)).mono ?_
 rintro e w2 ⟨⟨v,rfl,hv⟩,hb1⟩
 obtain ⟨n2,a2,c2,L2,rfl,i2⟩:=hv
 have hb1a:Below w2.heap.size w2 (w2.alloc (.cells #[.bool n2,.slice a2 L2.length c2,.int .i64 X2] 41)):=(Below.refl _ _).alloc (Nat.le_refl _) _
 have HU:=hide ((show IsDy w2 (.agg #[.bool n2,.slice a2 L2.length c2,.int .i64 X2]) z2 X2 from ⟨n2,a2,c2,L2,rfl,i2⟩).below hb1a)
 have HV2:=hide (((uH HV).below hb1).below hb1a)
 have x1:=((uH X).all hb1).all hb1a
 have x2:=Box3.new w2 (.bool n2) (.slice a2 L2.length c2) (.int .i64 X2)
 have B2:=hide ((uH B1).trans ((hb1.trans (hb1a.mono hb1.size)).mono (uH B1).size))
 have y0:=x1.c0;have y1:=x1.c1;have y2:=x1.c2;have u0:=x2.c0;have u1:=x2.c1;have u2:=x2.c2
 clear i2 hb1 hb1a K2 B1 HV X x1 x2
 go_wp2_with fail
 refine (uH K3 _ _ _ (uH B2) (uH HV2) (uH HU)).mono ?_
 rintro e w3 ⟨⟨v,rfl,hv⟩,hb1⟩
 clear y0 y1 y2 u0 u1 u2
 obtain ⟨n3,a3,c3,L3,rfl,i3⟩:=hv
 have hb1a:Below w3.heap.size w3 (w3.alloc (.cells #[.bool n3,.slice a3 L3.length c3,.int .i64 X3] 41)):=(Below.refl _ _).alloc (Nat.le_refl _) _
 have HX:=hide ((show IsDy w3 (.agg #[.bool n3,.slice a3 L3.length c3,.int .i64 X3]) 0 X3 from ⟨n3,a3,c3,L3,rfl,i3⟩).below hb1a)
 have hl:=dy_len (uH HX)
 rw [decide_eq_true rfl] at hl
 have B3:=hide ((uH B2).trans ((hb1.trans (hb1a.mono hb1.size)).mono (uH B2).size))
 have x3:=Box3.new w3 (.bool n3) (.slice a3 L3.length c3) (.int .i64 X3)
 have y0:=x3.c0;have y1:=x3.c1;have y2:=x3.c2
 clear i3 hb1 hb1a K3 B2 HV2 HU x3
 generalize L3.length = l3 at *
 go_wp2_with fail
 refine (uH K4 _).mono ?_
 rintro e w4 ⟨rfl,hb1⟩
 have B4:=hide ((uH B3).trans (hb1.mono (uH B3).size))
 clear hb1 K4 B3
 go_wp2
 exact bodyPost_ret (v:=.tuple #[.int .u64 o,.int .u8 0]) (by simp [results,Tryz.results277,go_sem]) rfl ⟨rfl,uH B4⟩
theorem addFinite_n (a b:Nat) (z1 z2 z3 X1 X2 X3 fl:Int) (w:World) (o:Nat) (h0:z3 ≠ 0)
  (C1:∀ w',Below w.heap.size w w'→Calls Tryz.prog 207 #[.int .u64 a] w' fun r w''=>DyR w'' r 0 z1 X1∧Below w'.heap.size w' w'')
  (C2:∀ w',Below w.heap.size w w'→Calls Tryz.prog 207 #[.int .u64 b] w' fun r w''=>DyR w'' r 0 z2 X2∧Below w'.heap.size w' w'')
  (C3:∀ w' v u,Below w.heap.size w w'→IsDy w' v z1 X1→IsDy w' u z2 X2→Calls Tryz.prog 295 #[v,u] w' fun r w''=>DyR w'' r 0 z3 X3∧Below w'.heap.size w' w'')
  (C4:∀ w' v,Below w.heap.size w w'→IsDy w' v z3 X3→Calls Tryz.prog 251 #[v] w' fun r w''=>r = .returned (.tuple #[.int .u64 (o:Nat),.int .u8 fl,.int .i64 0])∧Below w'.heap.size w' w'') :
  Calls Tryz.prog 277 #[.int .u64 a,.int .u64 b] w fun r w'=>r = .returned (.tuple #[.int .u64 (o:Nat),.int .u8 fl])∧Below w.heap.size w w':=by
 have K1:=hide C1;have K2:=hide C2;have K3:=hide C3;have K4:=hide C4
 clear C1 C2 C3 C4
 go_enter Tryz.func277,Tryz.ntmps277
 go_wp2_with fail
 refine (uH K1 _ (Below.refl _ _)).mono ?_
 rintro e w1 ⟨⟨v,rfl,hv⟩,hb1⟩
 obtain ⟨n1,a1,c1,L1,rfl,i1⟩:=hv
 have hb1a:Below w1.heap.size w1 (w1.alloc (.cells #[.bool n1,.slice a1 L1.length c1,.int .i64 X1] 41)):=(Below.refl _ _).alloc (Nat.le_refl _) _
 have HV:=hide ((show IsDy w1 (.agg #[.bool n1,.slice a1 L1.length c1,.int .i64 X1]) z1 X1 from ⟨n1,a1,c1,L1,rfl,i1⟩).below hb1a)
 have X:=hide (Box3.new w1 (.bool n1) (.slice a1 L1.length c1) (.int .i64 X1))
 have B1:=hide (hb1.trans (hb1a.mono hb1.size))
 clear i1 hb1 hb1a K1
 go_wp2_with fail
 refine (uH K2 _ (uH B1)).mono ?_
 rintro e w2 ⟨⟨v,rfl,hv⟩,hb1⟩
 obtain ⟨n2,a2,c2,L2,rfl,i2⟩:=hv
 have hb1a:Below w2.heap.size w2 (w2.alloc (.cells #[.bool n2,.slice a2 L2.length c2,.int .i64 X2] 41)):=(Below.refl _ _).alloc (Nat.le_refl _) _
 have HU:=hide ((show IsDy w2 (.agg #[.bool n2,.slice a2 L2.length c2,.int .i64 X2]) z2 X2 from ⟨n2,a2,c2,L2,rfl,i2⟩).below hb1a)
 have HV2:=hide (((uH HV).below hb1).below hb1a)
 have x1:=((uH X).all hb1).all hb1a
 have x2:=Box3.new w2 (.bool n2) (.slice a2 L2.length c2) (.int .i64 X2)
 have B2:=hide ((uH B1).trans ((hb1.trans (hb1a.mono hb1.size)).mono (uH B1).size))
 have y0:=x1.c0;have y1:=x1.c1;have y2:=x1.c2;have u0:=x2.c0;have u1:=x2.c1;have u2:=x2.c2
 clear i2 hb1 hb1a K2 B1 HV X x1 x2
 go_wp2_with fail
 refine (uH K3 _ _ _ (uH B2) (uH HV2) (uH HU)).mono ?_
 rintro e w3 ⟨⟨v,rfl,hv⟩,hb1⟩
 clear y0 y1 y2 u0 u1 u2
 obtain ⟨n3,a3,c3,L3,rfl,i3⟩:=hv
 have hb1a:Below w3.heap.size w3 (w3.alloc (.cells #[.bool n3,.slice a3 L3.length c3,.int .i64 X3] 41)):=(Below.refl _ _).alloc (Nat.le_refl _) _
 have HX:=hide ((show IsDy w3 (.agg #[.bool n3,.slice a3 L3.length c3,.int .i64 X3]) z3 X3 from ⟨n3,a3,c3,L3,rfl,i3⟩).below hb1a)
 have hl:=dy_len (uH HX)
 rw [decide_eq_false h0] at hl
 have B3:=hide ((uH B2).trans ((hb1.trans (hb1a.mono hb1.size)).mono (uH B2).size))
 have x3:=Box3.new w3 (.bool n3) (.slice a3 L3.length c3) (.int .i64 X3)
 have y0:=x3.c0;have y1:=x3.c1;have y2:=x3.c2
 clear i3 hb1 hb1a K3 B2 HV2 HU x3
 generalize L3.length = l3 at *
 go_wp2_with fail
 refine (uH K4 _ _ (uH B3) (uH HX)).mono ?_
 rintro e w4 ⟨rfl,hb1⟩
 have B4:=hide ((uH B3).trans (hb1.mono (uH B3).size))
 clear hb1 K4 B3
 go_wp2
 exact bodyPost_ret (v:=.tuple #[.int .u64 o,.int .u8 fl]) (by simp [results,Tryz.results277,go_sem]) rfl ⟨rfl,uH B4⟩
theorem addFinite_any (a b:Nat) (w:World) (ha:a < 18446744073709551616) (hb:b < 18446744073709551616) (fa:fFin a = true) (fb:fFin b = true) (hT:Tab w) :
  Calls Tryz.prog 277 #[.int .u64 a,.int .u64 b] w fun r w'=>r = .returned (.tuple #[.int .u64 (aV a b:Nat),.int .u8 (aF a b)])∧Below w.heap.size w w':=by
 obtain ⟨a3,a4⟩:fK a ≠ 3∧fK a ≠ 4:=by
  rcases fK_cases a with ⟨h,_⟩ | ⟨_,h⟩
  ·rw [fa] at h;cases h
  ·omega
 obtain ⟨b3,b4⟩:fK b ≠ 3∧fK b ≠ 4:=by
  rcases fK_cases b with ⟨h,_⟩ | ⟨_,h⟩
  ·rw [fb] at h;cases h
  ·omega
 obtain ⟨d1,d2⟩:=fZ_level a ha fa
 obtain ⟨d3,d4⟩:=fZ_level b hb fb
 have l3:=aZ_Lvl a b fa fb
 have C1:∀ w',Below w.heap.size w w'→_:=fun w' h=>value_some a w' ha fa (hT.all h)
 have C2:∀ w',Below w.heap.size w w'→_:=fun w' h=>value_some b w' hb fb (hT.all h)
 have C3:∀ w' v u,Below w.heap.size w w'→IsDy w' v (fD a) (fX a)→IsDy w' u (fD b) (fX b)→_:=fun w' v u h hv hu =>
  addN (W:=2099) (lo:=-1074) (z1:=fZ a) (z2:=fZ b) (by rw [d1,d2];exact hv) (by rw [d3,d4];exact hu) (fZ_Lvl a fa) (fZ_Lvl b fb) l3 (hT.all h)
 rw [(add_f a b a3 a4 b3 b4).1,(add_f a b a3 a4 b3 b4).2]
 by_cases h0:aZ a b = 0
 ·rw [if_pos h0,if_pos h0]
  have hz:fZ a+fZ b = 0:=h0
  rw [hz,oM_zero] at C3
  exact addFinite_z a b _ _ _ _ _ w _ C1 C2 C3 (fun w'=>nought_any a b w' ha hb)
 ·rw [if_neg h0,if_neg h0]
  have C4:∀ w' v,Below w.heap.size w w'→IsDy w' v (oM (aZ a b)) (oE (aZ a b) (-1074))→_:=fun w' v h hv=>round_dy hv l3.right.2 l3.right.1 (hT.all h)
  rw [(rnd_odd (aZ a b) (-1074)).1,oM_sign] at C4
  exact addFinite_n a b _ _ _ _ _ _ _ w _ (oM_ne _ h0).1 C1 C2 C3 C4
end Go.Proofs.YtdhmglmccafbnaaGreatDoor
