/- Part 21 of the texts. -/
import Derived.Test.YtlnphkioddknfaaGreatDoorPartq20
import Derived.Test.YtlnphkioddknfaaGreatDoorPartq19
import Derived.Test.YtlnphkioddknfaaGreatDoorPartq17
import Derived.Test.YtlnphkioddknfaaGreatDoorPartq16
set_option maxHeartbeats 2000000
set_option maxRecDepth 20000
namespace Go.Proofs.YtlnphkioddknfaaGreatDoor
open Go.RowKit
theorem fZ_neg8 (b:Nat) (h0:fK b ≠ 0):fZ b ≠ 0∧decide (fZ b < 0) = fS b:=by
 have hr:fR b ≠ 0:=fun e=>h0 ((fK_zero b).2 e)
 have hp:0 < rv (fR b):=rv_pos (by omega)
 unfold fZ pv
 cases fS b
 ·simp only [Bool.false_eq_true,if_false]
  exact ⟨by omega,decide_eq_false (by omega)⟩
 ·simp only [if_true]
  exact ⟨by omega,decide_eq_true (by omega)⟩
theorem sc_facts (a:Nat) (ha:a < 18446744073709551616) (fa:fFin a = true) (a0:fK a ≠ 0) :
  fD a % 2 = 1∧(fD a).natAbs < 9007199254740992∧(fD a).natAbs ≠ 0∧decide (fD a < 0) = fS a∧-1074≤fX a∧fX a≤1024∧1≤bl (fD a).natAbs∧(bl (fD a).natAbs:Int)+fX a≤1024∧rnd (rv (fR a)) (-1074) = rnd (fD a).natAbs (fX a):=by
 obtain ⟨β,x1,x2,x3,x4⟩:=odd_mag a ha fa a0
 obtain ⟨y1,y2,y3,y4,y5,y6,y7,y8⟩:=dS_facts a ha fa a0
 obtain ⟨d1,d2⟩:=fZ_level a ha fa
 obtain ⟨n1,n2⟩:=fZ_neg8 a a0
 have hne:(fD a).natAbs ≠ 0:=by omega
 have hb:bl (rv (fR a)) = bl (fD a).natAbs+β:=by rw [x2];exact bl_scale _ _ hne
 have hlt:=fZ_lt a fa
 rw [fZ_abs] at hlt
 have hne2:rv (fR a) ≠ 0:=by rw [← fZ_abs];omega
 have hb2:bl (rv (fR a))≤2098:=by
  obtain ⟨b1,b2,b3⟩:=bl_spec _ hne2
  have:=pow_lt_of (Nat.lt_of_le_of_lt b2 hlt)
  omega
 refine ⟨by omega,x4,hne,?_,y5,y6,y2,by omega,?_⟩
 ·rw [← d1,oM_sign];exact n2
 ·rw [x2,x1,rnd_scale]
theorem scale_clampC (C:Int) (hC:2098 < C) (v:Nat) (E n:Int) (hv:v ≠ 0) (h1:(bl v:Int)+E≤1024) (h2:-1074≤(bl v:Int)+E) :
  rnd v (E+n) = rnd v (E+max (-C) (min C n))∧rflag v (E+n) = rflag v (E+max (-C) (min C n)):=by
 rcases Int.lt_or_le C n with h | h
 ·have a:=rnd_high hv (E:=E+n) (by omega)
  have b:=rnd_high hv (E:=E+max (-C) (min C n)) (by omega)
  rw [a.1,a.2,b.1,b.2]
  exact ⟨rfl,rfl⟩
 ·rcases Int.lt_or_le n (-C) with g | g
  ·have a:=rnd_low hv (E:=E+n) (by omega)
   have b:=rnd_low hv (E:=E+max (-C) (min C n)) (by omega)
   rw [a.1,a.2,b.1,b.2]
   exact ⟨rfl,rfl⟩
  ·rw [show max (-C) (min C n) = n by omega]
   exact ⟨rfl,rfl⟩
def xV (a:Nat) (n:Int):Nat:=if fK a = 4 then 9221120237041090560 else if fK a = 3 ∨ fK a = 0 then a else wrd (fS a) (rnd (fD a).natAbs (fX a+n))
def xF (a:Nat) (n:Int):Int:=if fK a = 4 then 0 else if fK a = 3 ∨ fK a = 0 then 0 else rflag (fD a).natAbs (fX a+n)
theorem xV_lt (a:Nat) (n:Int) (ha:a < 18446744073709551616):xV a n < 18446744073709551616:=by
 unfold xV
 have:=rnd_le (fD a).natAbs (fX a+n)
 repeat' split
 ·decide
 ·exact ha
 ·exact wrd_lt _ _ (by omega)
theorem xV_clamp (C:Int) (hC:2098 < C) (a:Nat) (n:Int) (ha:a < 18446744073709551616):xV a (max (-C) (min C n)) = xV a n∧xF a (max (-C) (min C n)) = xF a n:=by
 unfold xV xF
 by_cases a4:fK a = 4
 ·rw [if_pos a4,if_pos a4,if_pos a4,if_pos a4];exact ⟨rfl,rfl⟩
 by_cases a3:fK a = 3 ∨ fK a = 0
 ·rw [if_neg a4,if_neg a4,if_neg a4,if_neg a4,if_pos a3,if_pos a3,if_pos a3,if_pos a3];exact ⟨rfl,rfl⟩
 ·rw [if_neg a4,if_neg a4,if_neg a4,if_neg a4,if_neg a3,if_neg a3,if_neg a3,if_neg a3]
  obtain ⟨z1,z2,z3,z4,z5,z6,z7,z8,z9⟩:=sc_facts a ha (fin_of a (by omega) a4) (by omega)
  have:=scale_clampC C hC _ _ n z3 z8 (by omega)
  rw [this.1,this.2]
  exact ⟨rfl,rfl⟩
theorem odd_dRt {D E:Int} (h:D % 2 = 1) (hE:-16384≤E∧E≤16384):dRt D E = true:=by
 unfold dRt
 rw [if_neg (by omega),decide_eq_true h,decide_eq_true hE];rfl
theorem odd8_oM {D:Int} (h:D % 2 = 1):oM D = D∧∀ e,oE D e = e:=by
 have h0:D ≠ 0:=by omega
 have h1:=oM_ne D h0
 have:=(oddOf D h0).unique (m':=D) (k':=0) ⟨by simp,h⟩
 refine ⟨this.1,fun e=>?_⟩
 rw [oE_ne _ _ h0,this.2];simp
theorem odd_tz {D:Int} (h:D % 2 = 1):tz D.natAbs = 0:=by
 have h0:D ≠ 0:=by omega
 exact ((oddOf D h0).unique (m':=D) (k':=0) ⟨by simp,h⟩).2
theorem dscaleN {w:World} {v:Value} {D X:Int} (n:Int) (hv:IsDy w v D X) (h1:D % 2 = 1) (h2:D.natAbs < 9007199254740992) (h3:-1074≤X∧X≤1024) (h4:-5000≤n∧n≤5000) (hT:Tab w) :
  Calls Tryz.prog 204 #[v,.int .i64 n] w fun r w'=>DyR w' r 0 D (X+n)∧Below w.heap.size w w':=by
 obtain ⟨na,ao,ca,A,rfl,a1,a2,a3,a4,a5⟩:=hv.right (small_TOP _ (by omega))
 have:=dscale_right na ao ca A X n w a1 (a5.trans (odd_dRt h1 (by omega))) (by omega) hT
 have hok:dOk D (X+n) = true:=by
  unfold dOk
  rw [odd_tz h1,decide_eq_true (show -32768≤X+n∧X+n≤32768 by omega),decide_eq_true (show -16384≤X+n+((0:Nat):Int)∧X+n+((0:Nat):Int)≤16384 by omega),Bool.or_true]
  rfl
 rw [a3] at this
 unfold dErr dM dX at this
 rw [hok,if_pos rfl,if_pos rfl,if_pos rfl,(odd8_oM h1).1,(odd8_oM h1).2] at this
 exact this
theorem scaleFinite_of (a o:Nat) (n D X Y fl:Int) (w:World) (hT:Tab w)
  (C1:∀ w',Tab w'→Calls Tryz.prog 203 #[.int .u64 a] w' fun r w''=>DyR w'' r 0 D X∧Below w'.heap.size w' w'')
  (C2:∀ w' v,Tab w'→IsDy w' v D X→Calls Tryz.prog 204 #[v,.int .i64 n] w' fun r w''=>DyR w'' r 0 D Y∧Below w'.heap.size w' w'')
  (C3:∀ w' v,Tab w'→IsDy w' v D Y→Calls Tryz.prog 205 #[v] w' fun r w''=>r = .returned (.tuple #[.int .u64 (o:Nat),.int .u8 fl,.int .i64 0])∧Below w'.heap.size w' w'') :
  Calls Tryz.prog 169 #[.int .u64 a,.int .i64 n] w fun r w'=>r = .returned (.tuple #[.int .u64 (o:Nat),.int .u8 fl])∧Below w.heap.size w w':=by
 have K1:=hide C1;have K2:=hide C2;have K3:=hide C3;have HT:=hide hT
 clear C1 C2 C3 hT
 go_enter Tryz.func169,Tryz.ntmps169
 go_wp2_with fail
 refine (uH K1 _ (uH HT)).mono ?_
 rintro e w1 ⟨⟨v,rfl,hv⟩,hb1⟩
 obtain ⟨n1,a1,c1,L1,rfl,i1⟩:=hv
 have hb1a:Below w1.heap.size w1 (w1.alloc (.cells #[.bool n1,.slice a1 L1.length c1,.int .i64 X] 47)):=(Below.refl _ _).alloc (Nat.le_refl _) _
 have HX:=hide ((show IsDy w1 (.agg #[.bool n1,.slice a1 L1.length c1,.int .i64 X]) D X from ⟨n1,a1,c1,L1,rfl,i1⟩).below hb1a)
 have B1:=hide (hb1.trans (hb1a.mono hb1.size))
 have x3:=Box3.new w1 (.bool n1) (.slice a1 L1.length c1) (.int .i64 X)
 have y0:=x3.c0;have y1:=x3.c1;have y2:=x3.c2
 clear i1 hb1 hb1a K1 x3
 generalize L1.length = l1 at *
 go_wp2_with fail
 refine (uH K2 _ _ ((uH HT).all (uH B1)) (uH HX)).mono ?_
 rintro e w2 ⟨⟨v,rfl,hv⟩,hb1⟩
 obtain ⟨n2,a2,c2,L2,rfl,i2⟩:=hv
 have hb1a:Below w2.heap.size w2 (w2.alloc (.cells #[.bool n2,.slice a2 L2.length c2,.int .i64 Y] 47)):=(Below.refl _ _).alloc (Nat.le_refl _) _
 have HY:=hide ((show IsDy w2 (.agg #[.bool n2,.slice a2 L2.length c2,.int .i64 Y]) D Y from ⟨n2,a2,c2,L2,rfl,i2⟩).below hb1a)
 have B2:=hide ((uH B1).trans ((hb1.trans (hb1a.mono hb1.size)).mono (uH B1).size))
 have x3:=Box3.new w2 (.bool n2) (.slice a2 L2.length c2) (.int .i64 Y)
 have z0:=x3.c0;have z1:=x3.c1;have z2:=x3.c2
 clear i2 hb1 hb1a K2 x3 y0 y1 y2 HX B1
 generalize L2.length = l2 at *
 go_wp2_with fail
 refine (uH K3 _ _ ((uH HT).all (uH B2)) (uH HY)).mono ?_
 rintro e w3 ⟨rfl,hb1⟩
 have B3:=hide ((uH B2).trans (hb1.mono (uH B2).size))
 clear hb1 K3 B2 z0 z1 z2 HY
 go_wp2
 exact bodyPost_ret (v:=.tuple #[.int .u64 o,.int .u8 fl]) (by simp [results,Tryz.results169,go_sem]) rfl ⟨rfl,uH B3⟩
theorem scaleFinite_any (a:Nat) (n:Int) (w:World) (ha:a < 18446744073709551616) (fa:fFin a = true) (a0:fK a ≠ 0) (hn:-5000≤n∧n≤5000) (hT:Tab w) :
  Calls Tryz.prog 169 #[.int .u64 a,.int .i64 n] w fun r w'=>r = .returned (.tuple #[.int .u64 (wrd (fS a) (rnd (fD a).natAbs (fX a+n)):Nat),.int .u8 (rflag (fD a).natAbs (fX a+n))])∧Below w.heap.size w w':=by
 obtain ⟨z1,z2,z3,z4,z5,z6,z7,z8,z9⟩:=sc_facts a ha fa a0
 have C3:∀ w' v,Tab w'→IsDy w' v (fD a) (fX a+n)→_:=fun w' v t hv=>round_dy hv (small_TOP _ (by omega)) (odd_dRt z1 (by omega)) t
 rw [z4] at C3
 exact scaleFinite_of a _ n (fD a) (fX a) (fX a+n) _ w hT (fun w' t=>value_some a w' ha fa t) (fun w' v t hv=>dscaleN n hv z1 z2 (by omega) hn t) C3
theorem scale_n (a:Nat) (n:Int) (w:World)
  (C1:∀ w',Calls Tryz.prog 103 #[.int .u64 a] w' fun r w''=>r = .returned (.int .i64 4)∧Below w'.heap.size w' w'') :
  Calls Tryz.prog 112 #[.int .u64 a,.int .i64 n] w fun r w'=>r = .returned (.tuple #[.int .u64 9221120237041090560,.int .u8 0])∧Below w.heap.size w w':=by
 have K1:=hide C1
 clear C1
 go_enter Tryz.func112,Tryz.ntmps112
 go_wp2_with fail
 refine (uH K1 _).mono ?_
 rintro e w1 ⟨rfl,hb1⟩
 clear K1
 go_wp2
 exact bodyPost_ret (v:=.tuple #[.int .u64 9221120237041090560,.int .u8 0]) (by simp [results,Tryz.results112,go_sem]) rfl ⟨rfl,hb1⟩
theorem scale_iz (a:Nat) (n k:Int) (w:World) (hk:k = 3 ∨ k = 0)
  (C1:∀ w',Calls Tryz.prog 103 #[.int .u64 a] w' fun r w''=>r = .returned (.int .i64 k)∧Below w'.heap.size w' w'') :
  Calls Tryz.prog 112 #[.int .u64 a,.int .i64 n] w fun r w'=>r = .returned (.tuple #[.int .u64 (a:Nat),.int .u8 0])∧Below w.heap.size w w':=by
 have K1:=hide C1
 clear C1
 rcases hk with rfl | rfl
 ·go_enter Tryz.func112,Tryz.ntmps112
  go_wp2_with fail
  refine (uH K1 _).mono ?_
  rintro e w1 ⟨rfl,hb1⟩
  clear K1
  go_wp2
  exact bodyPost_ret (v:=.tuple #[.int .u64 (a:Nat),.int .u8 0]) (by simp [results,Tryz.results112,go_sem]) rfl ⟨rfl,hb1⟩
 ·go_enter Tryz.func112,Tryz.ntmps112
  go_wp2_with fail
  refine (uH K1 _).mono ?_
  rintro e w1 ⟨rfl,hb1⟩
  clear K1
  go_wp2
  exact bodyPost_ret (v:=.tuple #[.int .u64 (a:Nat),.int .u8 0]) (by simp [results,Tryz.results112,go_sem]) rfl ⟨rfl,hb1⟩
theorem min2_run (P:Program) (w:World) (ts:Array TypeId) (t:TypeId) (x y:Int):(Builtin.min_ ts t #[.int .i64 x,.int .i64 y]).run P w = .ok (.int .i64 (min x y)) w:=by
 rw [run_min_int2]
 congr 2
 split <;> omega
theorem scale_f (a o:Nat) (n k m c fl:Int) (w:World) (h4:(k == 4) = false) (h3:(k == 3) = false) (h0:(k == 0) = false) (hT:Tab w)
  (hM:∀ W ts t,(Builtin.max_ ts t #[.int .i64 n,.int .i64 (-4096)]).run Tryz.prog W = .ok (.int .i64 m) W)
  (hN:∀ W ts t,(Builtin.min_ ts t #[.int .i64 m,.int .i64 4096]).run Tryz.prog W = .ok (.int .i64 c) W)
  (C1:∀ w',Calls Tryz.prog 103 #[.int .u64 a] w' fun r w''=>r = .returned (.int .i64 k)∧Below w'.heap.size w' w'')
  (C2:∀ w',Tab w'→Calls Tryz.prog 169 #[.int .u64 a,.int .i64 c] w' fun r w''=>r = .returned (.tuple #[.int .u64 (o:Nat),.int .u8 fl])∧Below w'.heap.size w' w'') :
  Calls Tryz.prog 112 #[.int .u64 a,.int .i64 n] w fun r w'=>r = .returned (.tuple #[.int .u64 (o:Nat),.int .u8 fl])∧Below w.heap.size w w':=by
 have K1:=hide C1;have K2:=hide C2;have HT:=hide hT
 clear C1 C2 hT
 go_enter Tryz.func112,Tryz.ntmps112
 go_wp2_with fail
 refine (uH K1 _).mono ?_
 rintro e w1 ⟨rfl,hb1⟩
 have B1:=hide hb1
 clear K1 hb1
 go_wp2_with fail
 refine (uH K2 _ ((uH HT).all (uH B1))).mono ?_
 rintro e w2 ⟨rfl,hb1⟩
 have B2:=hide ((uH B1).trans (hb1.mono (uH B1).size))
 clear K2 hb1 B1 HT
 go_wp2
 exact bodyPost_ret (v:=.tuple #[.int .u64 (o:Nat),.int .u8 fl]) (by simp [results,Tryz.results112,go_sem]) rfl ⟨rfl,uH B2⟩
theorem cscale_any (a:Nat) (n:Int) (w:World) (ha:a < 18446744073709551616) (hT:Tab w) :
  Calls Tryz.prog 112 #[.int .u64 a,.int .i64 n] w fun r w'=>r = .returned (.tuple #[.int .u64 (xV a n:Nat),.int .u8 (xF a n)])∧Below w.heap.size w w':=by
 have C1:=fun w'=>kind_any a w' ha
 by_cases a4:fK a = 4
 ·unfold xV xF
  rw [if_pos a4,if_pos a4]
  rw [a4] at C1
  exact scale_n a n w C1
 by_cases a3:fK a = 3 ∨ fK a = 0
 ·unfold xV xF
  rw [if_neg a4,if_neg a4,if_pos a3,if_pos a3]
  exact scale_iz a n _ w a3 C1
 ·have fa:=fin_of a (by omega) a4
  have e:=xV_clamp 4096 (by decide) a n ha
  rw [show max (-4096) (min 4096 n) = min (max n (-4096)) 4096 by omega] at e
  rw [← e.1,← e.2]
  unfold xV xF
  rw [if_neg a4,if_neg a4,if_neg a3,if_neg a3]
  exact scale_f a _ n _ (max n (-4096)) (min (max n (-4096)) 4096) _ w (by simp [a4]) (by simp;omega) (by simp;omega) hT (fun W ts t=>max2_run _ W ts t _ _) (fun W ts t=>min2_run _ W ts t _ _) C1 (fun w' t=>scaleFinite_any a _ w' ha fa (by omega) (by omega) t)
end Go.Proofs.YtlnphkioddknfaaGreatDoor
namespace Go.Proofs.YtlnphkioddknfaaGreatDoor
open Go.RowKit
theorem exp_0 (a:Nat) (k:Int) (w:World) (hk:k = 4 ∨ k = 3 ∨ k = 0)
  (C1:∀ w',Calls Tryz.prog 103 #[.int .u64 a] w' fun r w''=>r = .returned (.int .i64 k)∧Below w'.heap.size w' w'') :
  Calls Tryz.prog 240 #[.int .u64 a] w fun r w'=>r = .returned (.int .i64 0)∧Below w.heap.size w w':=by
 have K1:=hide C1
 clear C1
 rcases hk with rfl | rfl | rfl
 all_goals
  go_enter Tryz.func240,Tryz.ntmps240
  go_wp2_with fail
  refine (uH K1 _).mono ?_
  rintro e w1 ⟨rfl,hb1⟩
  clear K1
  go_wp2
  go_ret
  exact ⟨rfl,hb1⟩
theorem exp_f (a:Nat) (k D X t:Int) (w:World) (h4:(k == 4) = false) (h3:(k == 3) = false) (h0:(k == 0) = false) (ht:-2000≤t∧t≤2000) (hT:Tab w)
  (C1:∀ w',Calls Tryz.prog 103 #[.int .u64 a] w' fun r w''=>r = .returned (.int .i64 k)∧Below w'.heap.size w' w'')
  (C2:∀ w',Tab w'→Calls Tryz.prog 203 #[.int .u64 a] w' fun r w''=>DyR w'' r 0 D X∧Below w'.heap.size w' w'')
  (C3:∀ w' v,IsDy w' v D X→Calls Tryz.prog 254 #[v] w' fun r w''=>r = .returned (.int .i64 t)∧Below w'.heap.size w' w'') :
  Calls Tryz.prog 240 #[.int .u64 a] w fun r w'=>r = .returned (.int .i64 (t - 1))∧Below w.heap.size w w':=by
 have K1:=hide C1;have K2:=hide C2;have K3:=hide C3;have HT:=hide hT
 clear C1 C2 C3 hT
 have hw:=wrap_small (t - 1) (by omega)
 go_enter Tryz.func240,Tryz.ntmps240
 go_wp2_with fail
 refine (uH K1 _).mono ?_
 rintro e w1 ⟨rfl,hb1⟩
 have B1:=hide hb1
 clear K1 hb1
 go_wp2_with fail
 refine (uH K2 _ ((uH HT).all (uH B1))).mono ?_
 rintro e w2 ⟨⟨v,rfl,hv⟩,hb1⟩
 obtain ⟨n2,a2,c2,L2,rfl,i2⟩:=hv
 have hb1a:Below w2.heap.size w2 (w2.alloc (.cells #[.bool n2,.slice a2 L2.length c2,.int .i64 X] 47)):=(Below.refl _ _).alloc (Nat.le_refl _) _
 have HY:=hide ((show IsDy w2 (.agg #[.bool n2,.slice a2 L2.length c2,.int .i64 X]) D X from ⟨n2,a2,c2,L2,rfl,i2⟩).below hb1a)
 have B2:=hide ((uH B1).trans ((hb1.trans (hb1a.mono hb1.size)).mono (uH B1).size))
 have x3:=Box3.new w2 (.bool n2) (.slice a2 L2.length c2) (.int .i64 X)
 have z0:=x3.c0;have z1:=x3.c1;have z2:=x3.c2
 clear i2 hb1 hb1a K2 x3 B1
 generalize L2.length = l2 at *
 go_wp2_with fail
 refine (uH K3 _ _ (uH HY)).mono ?_
 rintro e w3 ⟨rfl,hb1⟩
 have B3:=hide ((uH B2).trans (hb1.mono (uH B2).size))
 clear hb1 K3 B2 z0 z1 z2 HY
 go_wp2
 go_ret
 exact ⟨rfl,uH B3⟩
theorem bl_le53 {v:Nat} (h:v < 9007199254740992):bl v≤53:=by
 by_cases h0:v = 0
 ·subst h0;decide
 ·obtain ⟨b1,b2,b3⟩:=bl_spec v h0
  have:=pow_lt_of (Nat.lt_of_le_of_lt b2 (by rw [p53];exact h))
  omega
theorem dtopN {w:World} {v:Value} {D X:Int} (hv:IsDy w v D X) (h1:D % 2 = 1) (h2:D.natAbs < 9007199254740992) (h3:-1074≤X∧X≤1024) :
  Calls Tryz.prog 254 #[v] w fun r w'=>r = .returned (.int .i64 ((bl D.natAbs:Int)+X))∧Below w.heap.size w w':=by
 obtain ⟨na,ao,ca,A,rfl,a1,a2,a3,a4,a5⟩:=hv.right (small_TOP _ (by omega))
 have:=dtop_any na ao ca A X w a1 (by omega)
 have hd:drB na A X = true:=a5.trans (odd_dRt h1 (by omega))
 have hv:val A = D.natAbs:=by rw [← a3,natAbs_sval]
 have hl:=lenL_bl a1.2.1 a2
 have hb:bl D.natAbs≤53:=bl_le53 h2
 rw [hl,hv,wrap_small _ (by omega)] at this
 exact this
def eX (a:Nat):Int:=if fK a = 4 ∨ fK a = 3 ∨ fK a = 0 then 0 else (bl (fD a).natAbs:Int)+fX a - 1
theorem cexp_any (a:Nat) (w:World) (ha:a < 18446744073709551616) (hT:Tab w) :
  Calls Tryz.prog 240 #[.int .u64 a] w fun r w'=>r = .returned (.int .i64 (eX a))∧Below w.heap.size w w':=by
 have C1:=fun w'=>kind_any a w' ha
 unfold eX
 by_cases h:fK a = 4 ∨ fK a = 3 ∨ fK a = 0
 ·rw [if_pos h]
  exact exp_0 a _ w h C1
 ·rw [if_neg h]
  have fa:=fin_of a (by omega) (by omega)
  obtain ⟨z1,z2,z3,z4,z5,z6,z7,z8,z9⟩:=sc_facts a ha fa (by omega)
  exact exp_f a _ (fD a) (fX a) _ w (by simp;omega) (by simp;omega) (by simp;omega) (by omega) hT C1 (fun w' t=>value_some a w' ha fa t) (fun w' v hv=>dtopN hv z1 z2 (by omega))
end Go.Proofs.YtlnphkioddknfaaGreatDoor
namespace Go.Proofs.YtlnphkioddknfaaGreatDoor
open Go.RowKit
def sqV (k:Int) (s x:Nat):Nat:=aV s (mV (xV x (-k)) (xV x (-k)))
end Go.Proofs.YtlnphkioddknfaaGreatDoor
namespace Go.Proofs.YtlnphkioddknfaaGreatDoor
open Go.RowKit
def ssV (k:Int):Nat→List Nat→Nat
 | s,[]=>s
 | s,x :: xs=>ssV k (sqV k s x) xs
def mx (a b:Nat):Nat:=if fK a = 4 ∨ fK b = 4 then 9221120237041090560 else if fZ a < fZ b then b else a
def bgF:Nat→List Nat→Nat
 | m,[]=>m
 | m,x :: xs=>bgF (mx m (fR x)) xs
theorem mag_fZ (r:Nat) (h:r < 9223372036854775808):fZ r = (rv r:Int)∧fR r = r∧fS r = false:=by
 have h1:fR r = r:=by unfold fR;omega
 have h2:fS r = false:=decide_eq_false (by omega)
 refine ⟨?_,h1,h2⟩
 unfold fZ pv
 rw [h1,h2]
 rfl
theorem mx_mag (m r:Nat) (hm:m < 9218868437227405312) (hr:r < 9218868437227405312):mx m r = max m r:=by
 obtain ⟨a1,a2,a3⟩:=mag_fZ m (by omega)
 obtain ⟨b1,b2,b3⟩:=mag_fZ r (by omega)
 have k1:=(fin_kind ((fK_rungs m).2.2.2 (by rw [a2];exact hm))).2
 have k2:=(fin_kind ((fK_rungs r).2.2.2 (by rw [b2];exact hr))).2
 unfold mx
 rw [if_neg (by omega),a1,b1]
 rcases Nat.lt_or_ge m r with h | h
 ·have:=rv8_lt h
  rw [if_pos (by omega)]
  omega
 ·have:=rv_mono h
  rw [if_neg (by omega)]
  omega
theorem bgF_fin:∀ (xs:List Nat) (m:Nat),m < 9218868437227405312→(∀ x ∈ xs,fFin x = true) →
  bgF m xs < 9218868437227405312∧m≤bgF m xs∧(∀ x ∈ xs,fR x≤bgF m xs)∧(bgF m xs = m ∨ ∃ x ∈ xs,fR x = bgF m xs):=by
 intro xs
 induction xs with
 | nil=>intro m hm _;exact ⟨hm,Nat.le_refl _,(fun x hx=>(by cases hx)),Or.inl rfl⟩
 | cons x xs ih =>
  intro m hm hx
  have hr:=fR_fin x (hx x List.mem_cons_self)
  have e:bgF m (x :: xs) = bgF (max m (fR x)) xs:=by
   show bgF (mx m (fR x)) xs = _
   rw [mx_mag m _ hm hr]
  obtain ⟨i1,i2,i3,i4⟩:=ih (max m (fR x)) (by omega) (fun y hy=>hx y (List.mem_cons_of_mem _ hy))
  rw [e]
  refine ⟨i1,by omega,?_,?_⟩
  ·intro y hy
   rcases List.mem_cons.1 hy with rfl | hy
   ·omega
   ·exact i3 y hy
  ·rcases i4 with i4 | ⟨y,hy,i4⟩
   ·rcases Nat.lt_or_ge m (fR x) with h | h
    ·exact .inr ⟨x,List.mem_cons_self,by omega⟩
    ·exact .inl (by omega)
   ·exact .inr ⟨y,List.mem_cons_of_mem _ hy,i4⟩
def nrV (xs:List Nat):Nat:=if bgF 0 xs = 0 ∨ fFin (bgF 0 xs) = false then bgF 0 xs else xV (sV (ssV (eX (bgF 0 xs)) 0 xs)) (eX (bgF 0 xs))
end Go.Proofs.YtlnphkioddknfaaGreatDoor
namespace Go.Proofs.YtlnphkioddknfaaGreatDoor
open Go.RowKit
def dtV:Nat→List Nat→List Nat→Nat
 | s,x :: xs,y :: ys=>dtV (aV s (mV x y)) xs ys
 | s,_,_=>s
end Go.Proofs.YtlnphkioddknfaaGreatDoor
