/- Part 17 of the texts. -/
import Derived.Test.YtlnphkioddknfaaGreatDoorPartz15
import Derived.Test.YtlnphkioddknfaaGreatDoorPartz16
import Derived.Test.YtlnphkioddknfaaGreatDoorPartz14
import Derived.Test.YtlnphkioddknfaaGreatDoorPartz13
set_option maxHeartbeats 4000000
set_option maxRecDepth 20000
namespace Go.Proofs.YtlnphkioddknfaaGreatDoor
open Go.RowKit
theorem fZ_neg8 (b:Nat) (h0:fK b ≠ 0):fZ b ≠ 0∧decide (fZ b < 0) = fS b:=by
 have hr:fR b ≠ 0:=fun e=>h0 ((fK_zero b).2 e)
 have hp:0 < rv (fR b):=rv_pos (by omega)
 unfold fZ pv
 cases fS b
 ·simp only [Bool.false_eq_true,if_false]
  exact ⟨by omega,decide_eq_false (by omega)⟩
 ·simp only [if_true]
  exact ⟨by omega,decide_eq_true (by omega)⟩
theorem sc_facts (a:Nat) (ha:a < 18446744073709551616) (fa:fFin a = true) (a0:fK a ≠ 0) :
  fD a % 2 = 1∧(fD a).natAbs < 9007199254740992∧(fD a).natAbs ≠ 0∧decide (fD a < 0) = fS a∧-1074≤fX a∧fX a≤1024∧1≤bl (fD a).natAbs∧(bl (fD a).natAbs:Int)+fX a≤1024∧rnd (rv (fR a)) (-1074) = rnd (fD a).natAbs (fX a):=by
 obtain ⟨β,x1,x2,x3,x4⟩:=odd_mag a ha fa a0
 obtain ⟨y1,y2,y3,y4,y5,y6,y7,y8⟩:=dS_facts a ha fa a0
 obtain ⟨d1,d2⟩:=fZ_level a ha fa
 obtain ⟨n1,n2⟩:=fZ_neg8 a a0
 have hne:(fD a).natAbs ≠ 0:=by omega
 have hb:bl (rv (fR a)) = bl (fD a).natAbs+β:=by rw [x2];exact bl_scale _ _ hne
 have hlt:=fZ_lt a fa
 rw [fZ_abs] at hlt
 have hne2:rv (fR a) ≠ 0:=by rw [← fZ_abs];omega
 have hb2:bl (rv (fR a))≤2098:=by
  obtain ⟨b1,b2,b3⟩:=bl_spec _ hne2
  have:=pow_lt_of (Nat.lt_of_le_of_lt b2 hlt)
  omega
 refine ⟨by omega,x4,hne,?_,y5,y6,y2,by omega,?_⟩
 ·rw [← d1,oM_sign];exact n2
 ·rw [x2,x1,rnd_scale]
theorem scale_clampC (C:Int) (hC:2098 < C) (v:Nat) (E n:Int) (hv:v ≠ 0) (h1:(bl v:Int)+E≤1024) (h2:-1074≤(bl v:Int)+E) :
  rnd v (E+n) = rnd v (E+max (-C) (min C n))∧rflag v (E+n) = rflag v (E+max (-C) (min C n)):=by
 rcases Int.lt_or_le C n with h | h
 ·have a:=rnd_high hv (E:=E+n) (by omega)
  have b:=rnd_high hv (E:=E+max (-C) (min C n)) (by omega)
  rw [a.1,a.2,b.1,b.2]
  exact ⟨rfl,rfl⟩
 ·rcases Int.lt_or_le n (-C) with g | g
  ·have a:=rnd_low hv (E:=E+n) (by omega)
   have b:=rnd_low hv (E:=E+max (-C) (min C n)) (by omega)
   rw [a.1,a.2,b.1,b.2]
   exact ⟨rfl,rfl⟩
  ·rw [show max (-C) (min C n) = n by omega]
   exact ⟨rfl,rfl⟩
def xV (a:Nat) (n:Int):Nat:=if fK a = 4 then 9221120237041090560 else if fK a = 3 ∨ fK a = 0 then a else wrd (fS a) (rnd (fD a).natAbs (fX a+n))
def xF (a:Nat) (n:Int):Int:=if fK a = 4 then 0 else if fK a = 3 ∨ fK a = 0 then 0 else rflag (fD a).natAbs (fX a+n)
theorem xV_lt (a:Nat) (n:Int) (ha:a < 18446744073709551616):xV a n < 18446744073709551616:=by
 unfold xV
 have:=rnd_le (fD a).natAbs (fX a+n)
 repeat' split
 ·decide
 ·exact ha
 ·exact wrd_lt _ _ (by omega)
theorem xV_clamp (C:Int) (hC:2098 < C) (a:Nat) (n:Int) (ha:a < 18446744073709551616):xV a (max (-C) (min C n)) = xV a n∧xF a (max (-C) (min C n)) = xF a n:=by
 unfold xV xF
 by_cases a4:fK a = 4
 ·rw [if_pos a4,if_pos a4,if_pos a4,if_pos a4];exact ⟨rfl,rfl⟩
 by_cases a3:fK a = 3 ∨ fK a = 0
 ·rw [if_neg a4,if_neg a4,if_neg a4,if_neg a4,if_pos a3,if_pos a3,if_pos a3,if_pos a3];exact ⟨rfl,rfl⟩
 ·rw [if_neg a4,if_neg a4,if_neg a4,if_neg a4,if_neg a3,if_neg a3,if_neg a3,if_neg a3]
  obtain ⟨z1,z2,z3,z4,z5,z6,z7,z8,z9⟩:=sc_facts a ha (fin_of a (by omega) a4) (by omega)
  have:=scale_clampC C hC _ _ n z3 z8 (by omega)
  rw [this.1,this.2]
  exact ⟨rfl,rfl⟩
theorem odd_dRt {D E:Int} (h:D % 2 = 1) (hE:-16384≤E∧E≤16384):dRt D E = true:=by
 unfold dRt
 rw [if_neg (by omega),decide_eq_true h,decide_eq_true hE];rfl
theorem odd8_oM {D:Int} (h:D % 2 = 1):oM D = D∧∀ e,oE D e = e:=by
 have h0:D ≠ 0:=by omega
 have h1:=oM_ne D h0
 have:=(oddOf D h0).unique (m':=D) (k':=0) ⟨by simp,h⟩
 refine ⟨this.1,fun e=>?_⟩
 rw [oE_ne _ _ h0,this.2];simp
theorem odd_tz {D:Int} (h:D % 2 = 1):tz D.natAbs = 0:=by
 have h0:D ≠ 0:=by omega
 exact ((oddOf D h0).unique (m':=D) (k':=0) ⟨by simp,h⟩).2
theorem dscaleN {w:World} {v:Value} {D X:Int} (n:Int) (hv:IsDy w v D X) (h1:D % 2 = 1) (h2:D.natAbs < 9007199254740992) (h3:-1074≤X∧X≤1024) (h4:-5000≤n∧n≤5000) (hT:Tab w) :
  Calls Tryz.prog 204 #[v,.int .i64 n] w fun r w'=>DyR w' r 0 D (X+n)∧Below w.heap.size w w':=by
 obtain ⟨na,ao,ca,A,rfl,a1,a2,a3,a4,a5⟩:=hv.right (small_TOP _ (by omega))
 have:=dscale_right na ao ca A X n w a1 (a5.trans (odd_dRt h1 (by omega))) (by omega) hT
 have hok:dOk D (X+n) = true:=by
  unfold dOk
  rw [odd_tz h1,decide_eq_true (show -32768≤X+n∧X+n≤32768 by omega),decide_eq_true (show -16384≤X+n+((0:Nat):Int)∧X+n+((0:Nat):Int)≤16384 by omega),Bool.or_true]
  rfl
 rw [a3] at this
 unfold dErr dM dX at this
 rw [hok,if_pos rfl,if_pos rfl,if_pos rfl,(odd8_oM h1).1,(odd8_oM h1).2] at this
 exact this
theorem scaleFinite_of (a o:Nat) (n D X Y fl:Int) (w:World) (hT:Tab w)
  (C1:∀ w',Tab w'→Calls Tryz.prog 203 #[.int .u64 a] w' fun r w''=>DyR w'' r 0 D X∧Below w'.heap.size w' w'')
  (C2:∀ w' v,Tab w'→IsDy w' v D X→Calls Tryz.prog 204 #[v,.int .i64 n] w' fun r w''=>DyR w'' r 0 D Y∧Below w'.heap.size w' w'')
  (C3:∀ w' v,Tab w'→IsDy w' v D Y→Calls Tryz.prog 205 #[v] w' fun r w''=>r = .returned (.tuple #[.int .u64 (o:Nat),.int .u8 fl,.int .i64 0])∧Below w'.heap.size w' w'') :
  Calls Tryz.prog 169 #[.int .u64 a,.int .i64 n] w fun r w'=>r = .returned (.tuple #[.int .u64 (o:Nat),.int .u8 fl])∧Below w.heap.size w w':=by
 have K1:=hide C1;have K2:=hide C2;have K3:=hide C3;have HT:=hide hT
 clear C1 C2 C3 hT
 go_enter Tryz.func169,Tryz.ntmps169
 go_wp2_with fail
 refine (uH K1 _ (uH HT)).mono ?_
 rintro e w1 ⟨⟨v,rfl,hv⟩,hb1⟩
 obtain ⟨n1,a1,c1,L1,rfl,i1⟩:=hv
 have hb1a:Below w1.heap.size w1 (w1.alloc (.cells #[.bool n1,.slice a1 L1.length c1,.int .i64 X] 47)):=(Below.refl _ _).alloc (Nat.le_refl _) _
 have HX:=hide ((show IsDy w1 (.agg #[.bool n1,.slice a1 L1.length c1,.int .i64 X]) D X from ⟨n1,a1,c1,L1,rfl,i1⟩).below hb1a)
 have B1:=hide (hb1.trans (hb1a.mono hb1.size))
 have x3:=Box3.new w1 (.bool n1) (.slice a1 L1.length c1) (.int .i64 X)
 have y0:=x3.c0;have y1:=x3.c1;have y2:=x3.c2
 clear i1 hb1 hb1a K1 x3
 generalize L1.length = l1 at *
 go_wp2_with fail
 refine (uH K2 _ _ ((uH HT).all (uH B1)) (uH HX)).mono ?_
 rintro e w2 ⟨⟨v,rfl,hv⟩,hb1⟩
 obtain ⟨n2,a2,c2,L2,rfl,i2⟩:=hv
 have hb1a:Below w2.heap.size w2 (w2.alloc (.cells #[.bool n2,.slice a2 L2.length c2,.int .i64 Y] 47)):=(Below.refl _ _).alloc (Nat.le_refl _) _
 have HY:=hide ((show IsDy w2 (.agg #[.bool n2,.slice a2 L2.length c2,.int .i64 Y]) D Y from ⟨n2,a2,c2,L2,rfl,i2⟩).below hb1a)
 have B2:=hide ((uH B1).trans ((hb1.trans (hb1a.mono hb1.size)).mono (uH B1).size))
 have x3:=Box3.new w2 (.bool n2) (.slice a2 L2.length c2) (.int .i64 Y)
 have z0:=x3.c0;have z1:=x3.c1;have z2:=x3.c2
 clear i2 hb1 hb1a K2 x3 y0 y1 y2 HX B1
 generalize L2.length = l2 at *
 go_wp2_with fail
 refine (uH K3 _ _ ((uH HT).all (uH B2)) (uH HY)).mono ?_
 rintro e w3 ⟨rfl,hb1⟩
 have B3:=hide ((uH B2).trans (hb1.mono (uH B2).size))
 clear hb1 K3 B2 z0 z1 z2 HY
 go_wp2
 exact bodyPost_ret (v:=.tuple #[.int .u64 o,.int .u8 fl]) (by simp [results,Tryz.results169,go_sem]) rfl ⟨rfl,uH B3⟩
theorem scaleFinite_any (a:Nat) (n:Int) (w:World) (ha:a < 18446744073709551616) (fa:fFin a = true) (a0:fK a ≠ 0) (hn:-5000≤n∧n≤5000) (hT:Tab w) :
  Calls Tryz.prog 169 #[.int .u64 a,.int .i64 n] w fun r w'=>r = .returned (.tuple #[.int .u64 (wrd (fS a) (rnd (fD a).natAbs (fX a+n)):Nat),.int .u8 (rflag (fD a).natAbs (fX a+n))])∧Below w.heap.size w w':=by
 obtain ⟨z1,z2,z3,z4,z5,z6,z7,z8,z9⟩:=sc_facts a ha fa a0
 have C3:∀ w' v,Tab w'→IsDy w' v (fD a) (fX a+n)→_:=fun w' v t hv=>round_dy hv (small_TOP _ (by omega)) (odd_dRt z1 (by omega)) t
 rw [z4] at C3
 exact scaleFinite_of a _ n (fD a) (fX a) (fX a+n) _ w hT (fun w' t=>value_some a w' ha fa t) (fun w' v t hv=>dscaleN n hv z1 z2 (by omega) hn t) C3
theorem scale_n (a:Nat) (n:Int) (w:World)
  (C1:∀ w',Calls Tryz.prog 103 #[.int .u64 a] w' fun r w''=>r = .returned (.int .i64 4)∧Below w'.heap.size w' w'') :
  Calls Tryz.prog 112 #[.int .u64 a,.int .i64 n] w fun r w'=>r = .returned (.tuple #[.int .u64 9221120237041090560,.int .u8 0])∧Below w.heap.size w w':=by
 have K1:=hide C1
 clear C1
 go_enter Tryz.func112,Tryz.ntmps112
 go_wp2_with fail
 refine (uH K1 _).mono ?_
 rintro e w1 ⟨rfl,hb1⟩
 clear K1
 go_wp2
 exact bodyPost_ret (v:=.tuple #[.int .u64 9221120237041090560,.int .u8 0]) (by simp [results,Tryz.results112,go_sem]) rfl ⟨rfl,hb1⟩
theorem scale_iz (a:Nat) (n k:Int) (w:World) (hk:k = 3 ∨ k = 0)
  (C1:∀ w',Calls Tryz.prog 103 #[.int .u64 a] w' fun r w''=>r = .returned (.int .i64 k)∧Below w'.heap.size w' w'') :
  Calls Tryz.prog 112 #[.int .u64 a,.int .i64 n] w fun r w'=>r = .returned (.tuple #[.int .u64 (a:Nat),.int .u8 0])∧Below w.heap.size w w':=by
 have K1:=hide C1
 clear C1
 rcases hk with rfl | rfl
 ·go_enter Tryz.func112,Tryz.ntmps112
  go_wp2_with fail
  refine (uH K1 _).mono ?_
  rintro e w1 ⟨rfl,hb1⟩
  clear K1
  go_wp2
  exact bodyPost_ret (v:=.tuple #[.int .u64 (a:Nat),.int .u8 0]) (by simp [results,Tryz.results112,go_sem]) rfl ⟨rfl,hb1⟩
 ·go_enter Tryz.func112,Tryz.ntmps112
  go_wp2_with fail
  refine (uH K1 _).mono ?_
  rintro e w1 ⟨rfl,hb1⟩
  clear K1
  go_wp2
  exact bodyPost_ret (v:=.tuple #[.int .u64 (a:Nat),.int .u8 0]) (by simp [results,Tryz.results112,go_sem]) rfl ⟨rfl,hb1⟩
theorem min2_run (P:Program) (w:World) (ts:Array TypeId) (t:TypeId) (x y:Int):(Builtin.min_ ts t #[.int .i64 x,.int .i64 y]).run P w = .ok (.int .i64 (min x y)) w:=by
 rw [run_min_int2]
 congr 2
 split <;> omega
theorem scale_f (a o:Nat) (n k m c fl:Int) (w:World) (h4:(k == 4) = false) (h3:(k == 3) = false) (h0:(k == 0) = false) (hT:Tab w)
  (hM:∀ W ts t,(Builtin.max_ ts t #[.int .i64 n,.int .i64 (-4096)]).run Tryz.prog W = .ok (.int .i64 m) W)
  (hN:∀ W ts t,(Builtin.min_ ts t #[.int .i64 m,.int .i64 4096]).run Tryz.prog W = .ok (.int .i64 c) W)
  (C1:∀ w',Calls Tryz.prog 103 #[.int .u64 a] w' fun r w''=>r = .returned (.int .i64 k)∧Below w'.heap.size w' w'')
  (C2:∀ w',Tab w'→Calls Tryz.prog 169 #[.int .u64 a,.int .i64 c] w' fun r w''=>r = .returned (.tuple #[.int .u64 (o:Nat),.int .u8 fl])∧Below w'.heap.size w' w'') :
  Calls Tryz.prog 112 #[.int .u64 a,.int .i64 n] w fun r w'=>r = .returned (.tuple #[.int .u64 (o:Nat),.int .u8 fl])∧Below w.heap.size w w':=by
 have K1:=hide C1;have K2:=hide C2;have HT:=hide hT
 clear C1 C2 hT
 go_enter Tryz.func112,Tryz.ntmps112
 go_wp2_with fail
 refine (uH K1 _).mono ?_
 rintro e w1 ⟨rfl,hb1⟩
 have B1:=hide hb1
 clear K1 hb1
 go_wp2_with fail
 refine (uH K2 _ ((uH HT).all (uH B1))).mono ?_
 rintro e w2 ⟨rfl,hb1⟩
 have B2:=hide ((uH B1).trans (hb1.mono (uH B1).size))
 clear K2 hb1 B1 HT
 go_wp2
 exact bodyPost_ret (v:=.tuple #[.int .u64 (o:Nat),.int .u8 fl]) (by simp [results,Tryz.results112,go_sem]) rfl ⟨rfl,uH B2⟩
theorem cscale_any (a:Nat) (n:Int) (w:World) (ha:a < 18446744073709551616) (hT:Tab w) :
  Calls Tryz.prog 112 #[.int .u64 a,.int .i64 n] w fun r w'=>r = .returned (.tuple #[.int .u64 (xV a n:Nat),.int .u8 (xF a n)])∧Below w.heap.size w w':=by
 have C1:=fun w'=>kind_any a w' ha
 by_cases a4:fK a = 4
 ·unfold xV xF
  rw [if_pos a4,if_pos a4]
  rw [a4] at C1
  exact scale_n a n w C1
 by_cases a3:fK a = 3 ∨ fK a = 0
 ·unfold xV xF
  rw [if_neg a4,if_neg a4,if_pos a3,if_pos a3]
  exact scale_iz a n _ w a3 C1
 ·have fa:=fin_of a (by omega) a4
  have e:=xV_clamp 4096 (by decide) a n ha
  rw [show max (-4096) (min 4096 n) = min (max n (-4096)) 4096 by omega] at e
  rw [← e.1,← e.2]
  unfold xV xF
  rw [if_neg a4,if_neg a4,if_neg a3,if_neg a3]
  exact scale_f a _ n _ (max n (-4096)) (min (max n (-4096)) 4096) _ w (by simp [a4]) (by simp;omega) (by simp;omega) hT (fun W ts t=>max2_run _ W ts t _ _) (fun W ts t=>min2_run _ W ts t _ _) C1 (fun w' t=>scaleFinite_any a _ w' ha fa (by omega) (by omega) t)
end Go.Proofs.YtlnphkioddknfaaGreatDoor
namespace Go.Proofs.YtlnphkioddknfaaGreatDoor
open Go.RowKit
theorem exp_0 (a:Nat) (k:Int) (w:World) (hk:k = 4 ∨ k = 3 ∨ k = 0)
  (C1:∀ w',Calls Tryz.prog 103 #[.int .u64 a] w' fun r w''=>r = .returned (.int .i64 k)∧Below w'.heap.size w' w'') :
  Calls Tryz.prog 240 #[.int .u64 a] w fun r w'=>r = .returned (.int .i64 0)∧Below w.heap.size w w':=by
 have K1:=hide C1
 clear C1
 rcases hk with rfl | rfl | rfl
 all_goals
  go_enter Tryz.func240,Tryz.ntmps240
  go_wp2_with fail
  refine (uH K1 _).mono ?_
  rintro e w1 ⟨rfl,hb1⟩
  clear K1
  go_wp2
  go_ret
  exact ⟨rfl,hb1⟩
theorem exp_f (a:Nat) (k D X t:Int) (w:World) (h4:(k == 4) = false) (h3:(k == 3) = false) (h0:(k == 0) = false) (ht:-2000≤t∧t≤2000) (hT:Tab w)
  (C1:∀ w',Calls Tryz.prog 103 #[.int .u64 a] w' fun r w''=>r = .returned (.int .i64 k)∧Below w'.heap.size w' w'')
  (C2:∀ w',Tab w'→Calls Tryz.prog 203 #[.int .u64 a] w' fun r w''=>DyR w'' r 0 D X∧Below w'.heap.size w' w'')
  (C3:∀ w' v,IsDy w' v D X→Calls Tryz.prog 254 #[v] w' fun r w''=>r = .returned (.int .i64 t)∧Below w'.heap.size w' w'') :
  Calls Tryz.prog 240 #[.int .u64 a] w fun r w'=>r = .returned (.int .i64 (t - 1))∧Below w.heap.size w w':=by
 have K1:=hide C1;have K2:=hide C2;have K3:=hide C3;have HT:=hide hT
 clear C1 C2 C3 hT
 have hw:=wrap_small (t - 1) (by omega)
 go_enter Tryz.func240,Tryz.ntmps240
 go_wp2_with fail
 refine (uH K1 _).mono ?_
 rintro e w1 ⟨rfl,hb1⟩
 have B1:=hide hb1
 clear K1 hb1
 go_wp2_with fail
 refine (uH K2 _ ((uH HT).all (uH B1))).mono ?_
 rintro e w2 ⟨⟨v,rfl,hv⟩,hb1⟩
 obtain ⟨n2,a2,c2,L2,rfl,i2⟩:=hv
 have hb1a:Below w2.heap.size w2 (w2.alloc (.cells #[.bool n2,.slice a2 L2.length c2,.int .i64 X] 47)):=(Below.refl _ _).alloc (Nat.le_refl _) _
 have HY:=hide ((show IsDy w2 (.agg #[.bool n2,.slice a2 L2.length c2,.int .i64 X]) D X from ⟨n2,a2,c2,L2,rfl,i2⟩).below hb1a)
 have B2:=hide ((uH B1).trans ((hb1.trans (hb1a.mono hb1.size)).mono (uH B1).size))
 have x3:=Box3.new w2 (.bool n2) (.slice a2 L2.length c2) (.int .i64 X)
 have z0:=x3.c0;have z1:=x3.c1;have z2:=x3.c2
 clear i2 hb1 hb1a K2 x3 B1
 generalize L2.length = l2 at *
 go_wp2_with fail
 refine (uH K3 _ _ (uH HY)).mono ?_
 rintro e w3 ⟨rfl,hb1⟩
 have B3:=hide ((uH B2).trans (hb1.mono (uH B2).size))
 clear hb1 K3 B2 z0 z1 z2 HY
 go_wp2
 go_ret
 exact ⟨rfl,uH B3⟩
theorem bl_le53 {v:Nat} (h:v < 9007199254740992):bl v≤53:=by
 by_cases h0:v = 0
 ·subst h0;decide
 ·obtain ⟨b1,b2,b3⟩:=bl_spec v h0
  have:=pow_lt_of (Nat.lt_of_le_of_lt b2 (by rw [p53];exact h))
  omega
theorem dtopN {w:World} {v:Value} {D X:Int} (hv:IsDy w v D X) (h1:D % 2 = 1) (h2:D.natAbs < 9007199254740992) (h3:-1074≤X∧X≤1024) :
  Calls Tryz.prog 254 #[v] w fun r w'=>r = .returned (.int .i64 ((bl D.natAbs:Int)+X))∧Below w.heap.size w w':=by
 obtain ⟨na,ao,ca,A,rfl,a1,a2,a3,a4,a5⟩:=hv.right (small_TOP _ (by omega))
 have:=dtop_any na ao ca A X w a1 (by omega)
 have hd:drB na A X = true:=a5.trans (odd_dRt h1 (by omega))
 have hv:val A = D.natAbs:=by rw [← a3,natAbs_sval]
 have hl:=lenL_bl a1.2.1 a2
 have hb:bl D.natAbs≤53:=bl_le53 h2
 rw [hl,hv,wrap_small _ (by omega)] at this
 exact this
def eX (a:Nat):Int:=if fK a = 4 ∨ fK a = 3 ∨ fK a = 0 then 0 else (bl (fD a).natAbs:Int)+fX a - 1
theorem cexp_any (a:Nat) (w:World) (ha:a < 18446744073709551616) (hT:Tab w) :
  Calls Tryz.prog 240 #[.int .u64 a] w fun r w'=>r = .returned (.int .i64 (eX a))∧Below w.heap.size w w':=by
 have C1:=fun w'=>kind_any a w' ha
 unfold eX
 by_cases h:fK a = 4 ∨ fK a = 3 ∨ fK a = 0
 ·rw [if_pos h]
  exact exp_0 a _ w h C1
 ·rw [if_neg h]
  have fa:=fin_of a (by omega) (by omega)
  obtain ⟨z1,z2,z3,z4,z5,z6,z7,z8,z9⟩:=sc_facts a ha fa (by omega)
  exact exp_f a _ (fD a) (fX a) _ w (by simp;omega) (by simp;omega) (by simp;omega) (by omega) hT C1 (fun w' t=>value_some a w' ha fa t) (fun w' v hv=>dtopN hv z1 z2 (by omega))
end Go.Proofs.YtlnphkioddknfaaGreatDoor
namespace Go.Proofs.YtlnphkioddknfaaGreatDoor
open Go.RowKit
def aO (s t:Bool):Nat:=if (s && t) = true then 9223372036854775808 else 0
theorem nought_any (a b:Nat) (w:World) (ha:a < 18446744073709551616) (hb:b < 18446744073709551616) :
  Calls Tryz.prog 263 #[.int .u64 a,.int .u64 b] w fun e w'=>e = .returned (.int .u64 (aO (fS a) (fS b):Nat))∧Below w.heap.size w w':=by
 have C1:=hide (fun w'=>ssign_any a w' ha)
 have C2:=hide (fun w'=>ssign_any b w' hb)
 generalize fS a = s at *
 generalize fS b = t at *
 clear ha hb
 go_enter Tryz.func263,Tryz.ntmps263
 go_wp2_with fail
 refine (uH C1 _).mono ?_
 rintro e w1 ⟨rfl,hb1⟩
 cases s
 ·go_wp2
  go_ret
  exact ⟨rfl,hb1⟩
 ·go_wp2_with fail
  refine (uH C2 _).mono ?_
  rintro e w2 ⟨rfl,hb2⟩
  cases t
  ·go_wp2
   go_ret
   exact ⟨rfl,hb1.trans (hb2.mono hb1.size)⟩
  ·go_wp2
   go_ret
   exact ⟨rfl,hb1.trans (hb2.mono hb1.size)⟩
theorem dy_len {w:World} {n:Bool} {a:Option Addr} {l c:Nat} {e m X:Int} (h:IsDy w (.agg #[.bool n,.slice a l c,.int .i64 e]) m X):((l:Int) == 0) = decide (m = 0):=by
 obtain ⟨n',a',c',L',e1,_,e3,_,e5,_⟩:=h.parts
 simp only [Value.agg.injEq,Array.mk.injEq,List.cons.injEq,Value.slice.injEq] at e1
 have e2:=e1.2.1.2.1
 by_cases h0:m = 0
 ·have:L' = []:=(val_zero_of_canon L' e3).1 (by rw [e5,h0];rfl)
  rw [decide_eq_true h0,e2,this];rfl
 ·have:L'.length ≠ 0:=fun h1=>by
   have:L' = []:=List.length_eq_zero_iff.1 h1
   rw [this] at e5
   simp [val] at e5
   omega
  rw [decide_eq_false h0];simp;omega
theorem addFinite_z (a b:Nat) (z1 z2 X1 X2 X3:Int) (w:World) (o:Nat)
  (C1:∀ w',Below w.heap.size w w'→Calls Tryz.prog 203 #[.int .u64 a] w' fun r w''=>DyR w'' r 0 z1 X1∧Below w'.heap.size w' w'')
  (C2:∀ w',Below w.heap.size w w'→Calls Tryz.prog 203 #[.int .u64 b] w' fun r w''=>DyR w'' r 0 z2 X2∧Below w'.heap.size w' w'')
  (C3:∀ w' v u,Below w.heap.size w w'→IsDy w' v z1 X1→IsDy w' u z2 X2→Calls Tryz.prog 262 #[v,u] w' fun r w''=>DyR w'' r 0 0 X3∧Below w'.heap.size w' w'')
  (C4:∀ w',Calls Tryz.prog 263 #[.int .u64 a,.int .u64 b] w' fun r w''=>r = .returned (.int .u64 (o:Nat))∧Below w'.heap.size w' w'') :
  Calls Tryz.prog 245 #[.int .u64 a,.int .u64 b] w fun r w'=>r = .returned (.tuple #[.int .u64 (o:Nat),.int .u8 0])∧Below w.heap.size w w':=by
 have K1:=hide C1;have K2:=hide C2;have K3:=hide C3;have K4:=hide C4
 clear C1 C2 C3 C4
 go_enter Tryz.func245,Tryz.ntmps245
 go_wp2_with fail
 refine (uH K1 _ (Below.refl _ _)).mono ?_
 rintro e w1 ⟨⟨v,rfl,hv⟩,hb1⟩
 obtain ⟨n1,a1,c1,L1,rfl,i1⟩:=hv
 have hb1a:Below w1.heap.size w1 (w1.alloc (.cells #[.bool n1,.slice a1 L1.length c1,.int .i64 X1] 47)):=(Below.refl _ _).alloc (Nat.le_refl _) _
 have HV:=hide ((show IsDy w1 (.agg #[.bool n1,.slice a1 L1.length c1,.int .i64 X1]) z1 X1 from ⟨n1,a1,c1,L1,rfl,i1⟩).below hb1a)
 have X:=hide (Box3.new w1 (.bool n1) (.slice a1 L1.length c1) (.int .i64 X1))
 have B1:=hide (hb1.trans (hb1a.mono hb1.size))
 clear i1 hb1 hb1a K1
 go_wp2_with fail
 refine (uH K2 _ (uH B1)).mono ?_
 rintro e w2 ⟨⟨v,rfl,hv⟩,hb1⟩
 obtain ⟨n2,a2,c2,L2,rfl,i2⟩:=hv
 have hb1a:Below w2.heap.size w2 (w2.alloc (.cells #[.bool n2,.slice a2 L2.length c2,.int .i64 X2] 47)):=(Below.refl _ _).alloc (Nat.le_refl _) _
 have HU:=hide ((show IsDy w2 (.agg #[.bool n2,.slice a2 L2.length c2,.int .i64 X2]) z2 X2 from ⟨n2,a2,c2,L2,rfl,i2⟩).below hb1a)
 have HV2:=hide (((uH HV).below hb1).below hb1a)
 have x1:=((uH X).all hb1).all hb1a
 have x2:=Box3.new w2 (.bool n2) (.slice a2 L2.length c2) (.int .i64 X2)
 have B2:=hide ((uH B1).trans ((hb1.trans (hb1a.mono hb1.size)).mono (uH B1).size))
 have y0:=x1.c0;have y1:=x1.c1;have y2:=x1.c2;have u0:=x2.c0;have u1:=x2.c1;have u2:=x2.c2
 clear i2 hb1 hb1a K2 B1 HV X x1 x2
 go_wp2_with fail
 refine (uH K3 _ _ _ (uH B2) (uH HV2) (uH HU)).mono ?_
 rintro e w3 ⟨⟨v,rfl,hv⟩,hb1⟩
 clear y0 y1 y2 u0 u1 u2
 obtain ⟨n3,a3,c3,L3,rfl,i3⟩:=hv
 have hb1a:Below w3.heap.size w3 (w3.alloc (.cells #[.bool n3,.slice a3 L3.length c3,.int .i64 X3] 47)):=(Below.refl _ _).alloc (Nat.le_refl _) _
 have HX:=hide ((show IsDy w3 (.agg #[.bool n3,.slice a3 L3.length c3,.int .i64 X3]) 0 X3 from ⟨n3,a3,c3,L3,rfl,i3⟩).below hb1a)
 have hl:=dy_len (uH HX)
 rw [decide_eq_true rfl] at hl
 have B3:=hide ((uH B2).trans ((hb1.trans (hb1a.mono hb1.size)).mono (uH B2).size))
 have x3:=Box3.new w3 (.bool n3) (.slice a3 L3.length c3) (.int .i64 X3)
 have y0:=x3.c0;have y1:=x3.c1;have y2:=x3.c2
 clear i3 hb1 hb1a K3 B2 HV2 HU x3
 generalize L3.length = l3 at *
 go_wp2_with fail
 refine (uH K4 _).mono ?_
 rintro e w4 ⟨rfl,hb1⟩
 have B4:=hide ((uH B3).trans (hb1.mono (uH B3).size))
 clear hb1 K4 B3
 go_wp2
 exact bodyPost_ret (v:=.tuple #[.int .u64 o,.int .u8 0]) (by simp [results,Tryz.results245,go_sem]) rfl ⟨rfl,uH B4⟩
theorem addFinite_n (a b:Nat) (z1 z2 z3 X1 X2 X3 fl:Int) (w:World) (o:Nat) (h0:z3 ≠ 0)
  (C1:∀ w',Below w.heap.size w w'→Calls Tryz.prog 203 #[.int .u64 a] w' fun r w''=>DyR w'' r 0 z1 X1∧Below w'.heap.size w' w'')
  (C2:∀ w',Below w.heap.size w w'→Calls Tryz.prog 203 #[.int .u64 b] w' fun r w''=>DyR w'' r 0 z2 X2∧Below w'.heap.size w' w'')
  (C3:∀ w' v u,Below w.heap.size w w'→IsDy w' v z1 X1→IsDy w' u z2 X2→Calls Tryz.prog 262 #[v,u] w' fun r w''=>DyR w'' r 0 z3 X3∧Below w'.heap.size w' w'')
  (C4:∀ w' v,Below w.heap.size w w'→IsDy w' v z3 X3→Calls Tryz.prog 205 #[v] w' fun r w''=>r = .returned (.tuple #[.int .u64 (o:Nat),.int .u8 fl,.int .i64 0])∧Below w'.heap.size w' w'') :
  Calls Tryz.prog 245 #[.int .u64 a,.int .u64 b] w fun r w'=>r = .returned (.tuple #[.int .u64 (o:Nat),.int .u8 fl])∧Below w.heap.size w w':=by
 have K1:=hide C1;have K2:=hide C2;have K3:=hide C3;have K4:=hide C4
 clear C1 C2 C3 C4
 go_enter Tryz.func245,Tryz.ntmps245
 go_wp2_with fail
 refine (uH K1 _ (Below.refl _ _)).mono ?_
 rintro e w1 ⟨⟨v,rfl,hv⟩,hb1⟩
 obtain ⟨n1,a1,c1,L1,rfl,i1⟩:=hv
 have hb1a:Below w1.heap.size w1 (w1.alloc (.cells #[.bool n1,.slice a1 L1.length c1,.int .i64 X1] 47)):=(Below.refl _ _).alloc (Nat.le_refl _) _
 have HV:=hide ((show IsDy w1 (.agg #[.bool n1,.slice a1 L1.length c1,.int .i64 X1]) z1 X1 from ⟨n1,a1,c1,L1,rfl,i1⟩).below hb1a)
 have X:=hide (Box3.new w1 (.bool n1) (.slice a1 L1.length c1) (.int .i64 X1))
 have B1:=hide (hb1.trans (hb1a.mono hb1.size))
 clear i1 hb1 hb1a K1
 go_wp2_with fail
 refine (uH K2 _ (uH B1)).mono ?_
 rintro e w2 ⟨⟨v,rfl,hv⟩,hb1⟩
 obtain ⟨n2,a2,c2,L2,rfl,i2⟩:=hv
 have hb1a:Below w2.heap.size w2 (w2.alloc (.cells #[.bool n2,.slice a2 L2.length c2,.int .i64 X2] 47)):=(Below.refl _ _).alloc (Nat.le_refl _) _
 have HU:=hide ((show IsDy w2 (.agg #[.bool n2,.slice a2 L2.length c2,.int .i64 X2]) z2 X2 from ⟨n2,a2,c2,L2,rfl,i2⟩).below hb1a)
 have HV2:=hide (((uH HV).below hb1).below hb1a)
 have x1:=((uH X).all hb1).all hb1a
 have x2:=Box3.new w2 (.bool n2) (.slice a2 L2.length c2) (.int .i64 X2)
 have B2:=hide ((uH B1).trans ((hb1.trans (hb1a.mono hb1.size)).mono (uH B1).size))
 have y0:=x1.c0;have y1:=x1.c1;have y2:=x1.c2;have u0:=x2.c0;have u1:=x2.c1;have u2:=x2.c2
 clear i2 hb1 hb1a K2 B1 HV X x1 x2
 go_wp2_with fail
 refine (uH K3 _ _ _ (uH B2) (uH HV2) (uH HU)).mono ?_
 rintro e w3 ⟨⟨v,rfl,hv⟩,hb1⟩
 clear y0 y1 y2 u0 u1 u2
 obtain ⟨n3,a3,c3,L3,rfl,i3⟩:=hv
 have hb1a:Below w3.heap.size w3 (w3.alloc (.cells #[.bool n3,.slice a3 L3.length c3,.int .i64 X3] 47)):=(Below.refl _ _).alloc (Nat.le_refl _) _
 have HX:=hide ((show IsDy w3 (.agg #[.bool n3,.slice a3 L3.length c3,.int .i64 X3]) z3 X3 from ⟨n3,a3,c3,L3,rfl,i3⟩).below hb1a)
 have hl:=dy_len (uH HX)
 rw [decide_eq_false h0] at hl
 have B3:=hide ((uH B2).trans ((hb1.trans (hb1a.mono hb1.size)).mono (uH B2).size))
 have x3:=Box3.new w3 (.bool n3) (.slice a3 L3.length c3) (.int .i64 X3)
 have y0:=x3.c0;have y1:=x3.c1;have y2:=x3.c2
 clear i3 hb1 hb1a K3 B2 HV2 HU x3
 generalize L3.length = l3 at *
 go_wp2_with fail
 refine (uH K4 _ _ (uH B3) (uH HX)).mono ?_
 rintro e w4 ⟨rfl,hb1⟩
 have B4:=hide ((uH B3).trans (hb1.mono (uH B3).size))
 clear hb1 K4 B3
 go_wp2
 exact bodyPost_ret (v:=.tuple #[.int .u64 o,.int .u8 fl]) (by simp [results,Tryz.results245,go_sem]) rfl ⟨rfl,uH B4⟩
theorem addFinite_any (a b:Nat) (w:World) (ha:a < 18446744073709551616) (hb:b < 18446744073709551616) (fa:fFin a = true) (fb:fFin b = true) (hT:Tab w) :
  Calls Tryz.prog 245 #[.int .u64 a,.int .u64 b] w fun r w'=>r = .returned (.tuple #[.int .u64 (aV a b:Nat),.int .u8 (aF a b)])∧Below w.heap.size w w':=by
 obtain ⟨a3,a4⟩:fK a ≠ 3∧fK a ≠ 4:=by
  rcases fK_cases a with ⟨h,_⟩ | ⟨_,h⟩
  ·rw [fa] at h;cases h
  ·omega
 obtain ⟨b3,b4⟩:fK b ≠ 3∧fK b ≠ 4:=by
  rcases fK_cases b with ⟨h,_⟩ | ⟨_,h⟩
  ·rw [fb] at h;cases h
  ·omega
 obtain ⟨d1,d2⟩:=fZ_level a ha fa
 obtain ⟨d3,d4⟩:=fZ_level b hb fb
 have l3:=aZ_Lvl a b fa fb
 have C1:∀ w',Below w.heap.size w w'→_:=fun w' h=>value_some a w' ha fa (hT.all h)
 have C2:∀ w',Below w.heap.size w w'→_:=fun w' h=>value_some b w' hb fb (hT.all h)
 have C3:∀ w' v u,Below w.heap.size w w'→IsDy w' v (fD a) (fX a)→IsDy w' u (fD b) (fX b)→_:=fun w' v u h hv hu =>
  addN (W:=2099) (lo:=-1074) (z1:=fZ a) (z2:=fZ b) (by rw [d1,d2];exact hv) (by rw [d3,d4];exact hu) (fZ_Lvl a fa) (fZ_Lvl b fb) l3 (hT.all h)
 rw [(add_f a b a3 a4 b3 b4).1,(add_f a b a3 a4 b3 b4).2]
 by_cases h0:aZ a b = 0
 ·rw [if_pos h0,if_pos h0]
  have hz:fZ a+fZ b = 0:=h0
  rw [hz,oM_zero] at C3
  exact addFinite_z a b _ _ _ _ _ w _ C1 C2 C3 (fun w'=>nought_any a b w' ha hb)
 ·rw [if_neg h0,if_neg h0]
  have C4:∀ w' v,Below w.heap.size w w'→IsDy w' v (oM (aZ a b)) (oE (aZ a b) (-1074))→_:=fun w' v h hv=>round_dy hv l3.right.2 l3.right.1 (hT.all h)
  rw [(rnd_odd (aZ a b) (-1074)).1,oM_sign] at C4
  exact addFinite_n a b _ _ _ _ _ _ _ w _ (oM_ne _ h0).1 C1 C2 C3 C4
end Go.Proofs.YtlnphkioddknfaaGreatDoor
namespace Go.Proofs.YtlnphkioddknfaaGreatDoor
open Go.RowKit
theorem sadd_n1 (a b:Nat) (kb:Int) (w:World) 
  (C1:∀ w',Calls Tryz.prog 103 #[.int .u64 a] w' fun r w''=>r = .returned (.int .i64 4)∧Below w'.heap.size w' w'')
  (C2:∀ w',Calls Tryz.prog 103 #[.int .u64 b] w' fun r w''=>r = .returned (.int .i64 kb)∧Below w'.heap.size w' w'') :
  Calls Tryz.prog 224 #[.int .u64 a,.int .u64 b] w fun r w'=>r = .returned (.tuple #[.int .u64 9221120237041090560,.int .u8 0])∧Below w.heap.size w w':=by
 have K1:=hide C1;have K2:=hide C2
 clear C1 C2
 go_enter Tryz.func224,Tryz.ntmps224
 go_wp2_with fail
 refine (uH K1 _).mono ?_
 rintro e w1 ⟨rfl,hb1⟩
 go_wp2_with fail
 refine (uH K2 _).mono ?_
 rintro e w2 ⟨rfl,hb2⟩
 have B:=hide (hb1.trans (hb2.mono hb1.size))
 clear hb1 hb2 K1 K2
 go_wp2
 exact bodyPost_ret (v:=.tuple #[.int .u64 9221120237041090560,.int .u8 0]) (by simp [results,Tryz.results224,go_sem]) rfl ⟨rfl,uH B⟩
theorem sadd_n2 (a b:Nat) (ka:Int) (w:World) (h1:(ka == 4) = false)
  (C1:∀ w',Calls Tryz.prog 103 #[.int .u64 a] w' fun r w''=>r = .returned (.int .i64 ka)∧Below w'.heap.size w' w'')
  (C2:∀ w',Calls Tryz.prog 103 #[.int .u64 b] w' fun r w''=>r = .returned (.int .i64 4)∧Below w'.heap.size w' w'') :
  Calls Tryz.prog 224 #[.int .u64 a,.int .u64 b] w fun r w'=>r = .returned (.tuple #[.int .u64 9221120237041090560,.int .u8 0])∧Below w.heap.size w w':=by
 have K1:=hide C1;have K2:=hide C2
 clear C1 C2
 go_enter Tryz.func224,Tryz.ntmps224
 go_wp2_with fail
 refine (uH K1 _).mono ?_
 rintro e w1 ⟨rfl,hb1⟩
 go_wp2_with fail
 refine (uH K2 _).mono ?_
 rintro e w2 ⟨rfl,hb2⟩
 have B:=hide (hb1.trans (hb2.mono hb1.size))
 clear hb1 hb2 K1 K2
 go_wp2
 exact bodyPost_ret (v:=.tuple #[.int .u64 9221120237041090560,.int .u8 0]) (by simp [results,Tryz.results224,go_sem]) rfl ⟨rfl,uH B⟩
theorem sadd_ii (a b:Nat) (w:World) (h1:((a:Int) == (b:Int)) = false)
  (C1:∀ w',Calls Tryz.prog 103 #[.int .u64 a] w' fun r w''=>r = .returned (.int .i64 3)∧Below w'.heap.size w' w'')
  (C2:∀ w',Calls Tryz.prog 103 #[.int .u64 b] w' fun r w''=>r = .returned (.int .i64 3)∧Below w'.heap.size w' w'') :
  Calls Tryz.prog 224 #[.int .u64 a,.int .u64 b] w fun r w'=>r = .returned (.tuple #[.int .u64 9221120237041090560,.int .u8 16])∧Below w.heap.size w w':=by
 have K1:=hide C1;have K2:=hide C2
 clear C1 C2
 go_enter Tryz.func224,Tryz.ntmps224
 go_wp2_with fail
 refine (uH K1 _).mono ?_
 rintro e w1 ⟨rfl,hb1⟩
 go_wp2_with fail
 refine (uH K2 _).mono ?_
 rintro e w2 ⟨rfl,hb2⟩
 have B:=hide (hb1.trans (hb2.mono hb1.size))
 clear hb1 hb2 K1 K2
 go_wp2
 exact bodyPost_ret (v:=.tuple #[.int .u64 9221120237041090560,.int .u8 16]) (by simp [results,Tryz.results224,go_sem]) rfl ⟨rfl,uH B⟩
theorem sadd_ie (a b:Nat) (w:World) (h1:((a:Int) == (b:Int)) = true)
  (C1:∀ w',Calls Tryz.prog 103 #[.int .u64 a] w' fun r w''=>r = .returned (.int .i64 3)∧Below w'.heap.size w' w'')
  (C2:∀ w',Calls Tryz.prog 103 #[.int .u64 b] w' fun r w''=>r = .returned (.int .i64 3)∧Below w'.heap.size w' w'') :
  Calls Tryz.prog 224 #[.int .u64 a,.int .u64 b] w fun r w'=>r = .returned (.tuple #[.int .u64 a,.int .u8 0])∧Below w.heap.size w w':=by
 have K1:=hide C1;have K2:=hide C2
 clear C1 C2
 go_enter Tryz.func224,Tryz.ntmps224
 go_wp2_with fail
 refine (uH K1 _).mono ?_
 rintro e w1 ⟨rfl,hb1⟩
 go_wp2_with fail
 refine (uH K2 _).mono ?_
 rintro e w2 ⟨rfl,hb2⟩
 have B:=hide (hb1.trans (hb2.mono hb1.size))
 clear hb1 hb2 K1 K2
 go_wp2
 exact bodyPost_ret (v:=.tuple #[.int .u64 a,.int .u8 0]) (by simp [results,Tryz.results224,go_sem]) rfl ⟨rfl,uH B⟩
theorem sadd_i (a b:Nat) (kb:Int) (w:World) (h1:(kb == 4) = false) (h2:(kb == 3) = false)
  (C1:∀ w',Calls Tryz.prog 103 #[.int .u64 a] w' fun r w''=>r = .returned (.int .i64 3)∧Below w'.heap.size w' w'')
  (C2:∀ w',Calls Tryz.prog 103 #[.int .u64 b] w' fun r w''=>r = .returned (.int .i64 kb)∧Below w'.heap.size w' w'') :
  Calls Tryz.prog 224 #[.int .u64 a,.int .u64 b] w fun r w'=>r = .returned (.tuple #[.int .u64 a,.int .u8 0])∧Below w.heap.size w w':=by
 have K1:=hide C1;have K2:=hide C2
 clear C1 C2
 go_enter Tryz.func224,Tryz.ntmps224
 go_wp2_with fail
 refine (uH K1 _).mono ?_
 rintro e w1 ⟨rfl,hb1⟩
 go_wp2_with fail
 refine (uH K2 _).mono ?_
 rintro e w2 ⟨rfl,hb2⟩
 have B:=hide (hb1.trans (hb2.mono hb1.size))
 clear hb1 hb2 K1 K2
 go_wp2
 exact bodyPost_ret (v:=.tuple #[.int .u64 a,.int .u8 0]) (by simp [results,Tryz.results224,go_sem]) rfl ⟨rfl,uH B⟩
theorem sadd_j (a b:Nat) (ka:Int) (w:World) (h1:(ka == 4) = false) (h2:(ka == 3) = false)
  (C1:∀ w',Calls Tryz.prog 103 #[.int .u64 a] w' fun r w''=>r = .returned (.int .i64 ka)∧Below w'.heap.size w' w'')
  (C2:∀ w',Calls Tryz.prog 103 #[.int .u64 b] w' fun r w''=>r = .returned (.int .i64 3)∧Below w'.heap.size w' w'') :
  Calls Tryz.prog 224 #[.int .u64 a,.int .u64 b] w fun r w'=>r = .returned (.tuple #[.int .u64 b,.int .u8 0])∧Below w.heap.size w w':=by
 have K1:=hide C1;have K2:=hide C2
 clear C1 C2
 go_enter Tryz.func224,Tryz.ntmps224
 go_wp2_with fail
 refine (uH K1 _).mono ?_
 rintro e w1 ⟨rfl,hb1⟩
 go_wp2_with fail
 refine (uH K2 _).mono ?_
 rintro e w2 ⟨rfl,hb2⟩
 have B:=hide (hb1.trans (hb2.mono hb1.size))
 clear hb1 hb2 K1 K2
 go_wp2
 exact bodyPost_ret (v:=.tuple #[.int .u64 b,.int .u8 0]) (by simp [results,Tryz.results224,go_sem]) rfl ⟨rfl,uH B⟩
theorem sadd_f (a b:Nat) (ka kb fl:Int) (o:Nat) (w:World) (h1:(ka == 4) = false) (h2:(ka == 3) = false) (h3:(kb == 4) = false) (h4:(kb == 3) = false) (hT:Tab w)
  (C3:∀ w',Tab w'→Calls Tryz.prog 245 #[.int .u64 a,.int .u64 b] w' fun r w''=>r = .returned (.tuple #[.int .u64 (o:Nat),.int .u8 fl])∧Below w'.heap.size w' w'')
  (C1:∀ w',Calls Tryz.prog 103 #[.int .u64 a] w' fun r w''=>r = .returned (.int .i64 ka)∧Below w'.heap.size w' w'')
  (C2:∀ w',Calls Tryz.prog 103 #[.int .u64 b] w' fun r w''=>r = .returned (.int .i64 kb)∧Below w'.heap.size w' w'') :
  Calls Tryz.prog 224 #[.int .u64 a,.int .u64 b] w fun r w'=>r = .returned (.tuple #[.int .u64 (o:Nat),.int .u8 fl])∧Below w.heap.size w w':=by
 have K1:=hide C1;have K2:=hide C2
 clear C1 C2
 go_enter Tryz.func224,Tryz.ntmps224
 go_wp2_with fail
 refine (uH K1 _).mono ?_
 rintro e w1 ⟨rfl,hb1⟩
 go_wp2_with fail
 refine (uH K2 _).mono ?_
 rintro e w2 ⟨rfl,hb2⟩
 have B:=hide (hb1.trans (hb2.mono hb1.size))
 clear hb1 hb2 K1 K2
 have K3:=hide C3;have HT:=hide (hT.all (uH B))
 clear C3 hT
 go_wp2_with fail
 refine (uH K3 _ (uH HT)).mono ?_
 rintro e w3 ⟨rfl,hb3⟩
 have B:=hide ((uH B).trans (hb3.mono (uH B).size))
 clear hb3 K3 HT
 go_wp2
 exact bodyPost_ret (v:=.tuple #[.int .u64 (o:Nat),.int .u8 fl]) (by simp [results,Tryz.results224,go_sem]) rfl ⟨rfl,uH B⟩
theorem sadd_any (a b:Nat) (w:World) (ha:a < 18446744073709551616) (hb:b < 18446744073709551616) (hT:Tab w) :
  Calls Tryz.prog 224 #[.int .u64 a,.int .u64 b] w fun r w'=>r = .returned (.tuple #[.int .u64 (aV a b:Nat),.int .u8 (aF a b)])∧Below w.heap.size w w':=by
 have C1:=fun w'=>kind_any a w' ha
 have C2:=fun w'=>kind_any b w' hb
 by_cases a4:fK a = 4
 ·have e1:aV a b = 9221120237041090560:=by unfold aV;rw [if_pos (Or.inl a4)]
  have e2:aF a b = 0:=by unfold aF;rw [if_pos (Or.inl a4)]
  rw [e1,e2]
  rw [a4] at C1
  exact sadd_n1 a b _ w C1 C2
 by_cases b4:fK b = 4
 ·have e1:aV a b = 9221120237041090560:=by unfold aV;rw [if_pos (Or.inr b4)]
  have e2:aF a b = 0:=by unfold aF;rw [if_pos (Or.inr b4)]
  rw [e1,e2]
  rw [b4] at C2
  exact sadd_n2 a b _ w (by simp [a4]) C1 C2
 have n4:¬ (fK a = 4 ∨ fK b = 4):=by omega
 by_cases a3:fK a = 3
 ·by_cases b3:fK b = 3
  ·by_cases hab:a = b
   ·have e1:aV a b = a:=by unfold aV;rw [if_neg n4,if_pos a3,if_neg (fun h=>h.2 hab)]
    have e2:aF a b = 0:=by unfold aF;rw [if_neg n4,if_pos a3,if_neg (fun h=>h.2 hab)]
    rw [e1,e2]
    rw [a3] at C1
    rw [b3] at C2
    exact sadd_ie a b w (by simp [hab]) C1 C2
   ·have e1:aV a b = 9221120237041090560:=by unfold aV;rw [if_neg n4,if_pos a3,if_pos ⟨b3,hab⟩]
    have e2:aF a b = 16:=by unfold aF;rw [if_neg n4,if_pos a3,if_pos ⟨b3,hab⟩]
    rw [e1,e2]
    rw [a3] at C1
    rw [b3] at C2
    exact sadd_ii a b w (by simp;omega) C1 C2
  ·have e1:aV a b = a:=by unfold aV;rw [if_neg n4,if_pos a3,if_neg (fun h=>b3 h.1)]
   have e2:aF a b = 0:=by unfold aF;rw [if_neg n4,if_pos a3,if_neg (fun h=>b3 h.1)]
   rw [e1,e2]
   rw [a3] at C1
   exact sadd_i a b _ w (by simp [b4]) (by simp [b3]) C1 C2
 ·by_cases b3:fK b = 3
  ·have e1:aV a b = b:=by unfold aV;rw [if_neg n4,if_neg a3,if_pos b3]
   have e2:aF a b = 0:=by unfold aF;rw [if_neg n4,if_neg a3,if_pos b3]
   rw [e1,e2]
   rw [b3] at C2
   exact sadd_j a b _ w (by simp [a4]) (by simp [a3]) C1 C2
  ·exact sadd_f a b _ _ _ _ w (by simp [a4]) (by simp [a3]) (by simp [b4]) (by simp [b3]) hT (fun w' t=>addFinite_any a b w' ha hb (fin_of a a3 a4) (fin_of b b3 b4) t) C1 C2
theorem ssub_any (a b:Nat) (w:World) (ha:a < 18446744073709551616) (hb:b < 18446744073709551616) (hT:Tab w) :
  Calls Tryz.prog 200 #[.int .u64 a,.int .u64 b] w fun r w'=>r = .returned (.tuple #[.int .u64 (aV a (fN b):Nat),.int .u8 (aF a (fN b))])∧Below w.heap.size w w':=by
 have K1:=hide (fun w'=>sminus_any b w' hb)
 have K2:=hide (sadd_any a (fN b) w ha (fN_lt b hb) hT)
 clear ha hb hT
 generalize aV a (fN b) = o at *
 generalize aF a (fN b) = fl at *
 go_enter Tryz.func200,Tryz.ntmps200
 go_wp2_with fail
 refine (uH K1 _).mono ?_
 rintro e w1 ⟨rfl,rfl⟩
 go_wp2_with fail
 refine Calls.mono (uH K2) ?_
 rintro e w2 ⟨rfl,hb2⟩
 have B:=hide hb2
 clear hb2 K1 K2
 go_wp2
 exact bodyPost_ret (v:=.tuple #[.int .u64 o,.int .u8 fl]) (by simp [results,Tryz.results200,go_sem]) rfl ⟨rfl,uH B⟩
end Go.Proofs.YtlnphkioddknfaaGreatDoor
namespace Go.Proofs.YtlnphkioddknfaaGreatDoor
open Go.RowKit
theorem tsigned_ways (z a b:Nat) (s t:Bool) (o:Nat) (w:World)
  (C1:∀ w',Calls Tryz.prog 118 #[.int .u64 a] w' fun r w''=>r = .returned (.bool s)∧Below w'.heap.size w' w'')
  (C2:∀ w',Calls Tryz.prog 118 #[.int .u64 b] w' fun r w''=>r = .returned (.bool t)∧Below w'.heap.size w' w'')
  (C3:∀ w',Calls Tryz.prog 119 #[.int .u64 z] w' fun r w''=>r = .returned (.int .u64 (o:Nat))∧w' = w'') :
  Calls Tryz.prog 225 #[.int .u64 z,.int .u64 a,.int .u64 b] w fun r w'=>r = .returned (.int .u64 ((if (s ^^ t) = true then o else z:Nat):Int))∧Below w.heap.size w w':=by
 have K1:=hide C1;have K2:=hide C2;have K3:=hide C3
 clear C1 C2 C3
 go_enter Tryz.func225,Tryz.ntmps225
 go_wp2_with fail
 refine (uH K1 _).mono ?_
 rintro e w1 ⟨rfl,hb1⟩
 go_wp2_with fail
 refine (uH K2 _).mono ?_
 rintro e w2 ⟨rfl,hb2⟩
 have B:=hide (hb1.trans (hb2.mono hb1.size))
 clear hb1 hb2 K1 K2
 cases s <;> cases t
 ·go_wp2
  go_ret
  exact ⟨rfl,uH B⟩
 ·go_wp2_with fail
  refine (uH K3 _).mono ?_
  rintro e w3 ⟨rfl,rfl⟩
  go_wp2
  go_ret
  exact ⟨rfl,uH B⟩
 ·go_wp2_with fail
  refine (uH K3 _).mono ?_
  rintro e w3 ⟨rfl,rfl⟩
  go_wp2
  go_ret
  exact ⟨rfl,uH B⟩
 ·go_wp2
  go_ret
  exact ⟨rfl,uH B⟩
theorem tsigned_any (z a b:Nat) (w:World) (ha:a < 18446744073709551616) (hb:b < 18446744073709551616) (hz:z < 9223372036854775808) :
  Calls Tryz.prog 225 #[.int .u64 z,.int .u64 a,.int .u64 b] w fun r w'=>r = .returned (.int .u64 (wrd (fS a ^^ fS b) z:Nat))∧Below w.heap.size w w':=by
 have h:=tsigned_ways z a b (fS a) (fS b) (fN z) w (fun w'=>ssign_any a w' ha) (fun w'=>ssign_any b w' hb) (fun w'=>sminus_any z w' (by omega))
 have e:(if (fS a ^^ fS b) = true then fN z else z:Nat) = wrd (fS a ^^ fS b) z:=by
  cases (fS a ^^ fS b)
  ·rw [wrd_false];rfl
  ·rw [← fN_wrd z hz];rfl
 rwa [e] at h
theorem mulFinite_n (a b:Nat) (z1 z2 z3 X1 X2 X3 fl:Int) (w:World) (o:Nat)
  (C1:∀ w',Below w.heap.size w w'→Calls Tryz.prog 203 #[.int .u64 a] w' fun r w''=>DyR w'' r 0 z1 X1∧Below w'.heap.size w' w'')
  (C2:∀ w',Below w.heap.size w w'→Calls Tryz.prog 203 #[.int .u64 b] w' fun r w''=>DyR w'' r 0 z2 X2∧Below w'.heap.size w' w'')
  (C3:∀ w' v u,Below w.heap.size w w'→IsDy w' v z1 X1→IsDy w' u z2 X2→Calls Tryz.prog 246 #[v,u] w' fun r w''=>DyR w'' r 0 z3 X3∧Below w'.heap.size w' w'')
  (C4:∀ w' v,Below w.heap.size w w'→IsDy w' v z3 X3→Calls Tryz.prog 205 #[v] w' fun r w''=>r = .returned (.tuple #[.int .u64 (o:Nat),.int .u8 fl,.int .i64 0])∧Below w'.heap.size w' w'') :
  Calls Tryz.prog 226 #[.int .u64 a,.int .u64 b] w fun r w'=>r = .returned (.tuple #[.int .u64 (o:Nat),.int .u8 fl])∧Below w.heap.size w w':=by
 have K1:=hide C1;have K2:=hide C2;have K3:=hide C3;have K4:=hide C4
 clear C1 C2 C3 C4
 go_enter Tryz.func226,Tryz.ntmps226
 go_wp2_with fail
 refine (uH K1 _ (Below.refl _ _)).mono ?_
 rintro e w1 ⟨⟨v,rfl,hv⟩,hb1⟩
 obtain ⟨n1,a1,c1,L1,rfl,i1⟩:=hv
 have hb1a:Below w1.heap.size w1 (w1.alloc (.cells #[.bool n1,.slice a1 L1.length c1,.int .i64 X1] 47)):=(Below.refl _ _).alloc (Nat.le_refl _) _
 have HV:=hide ((show IsDy w1 (.agg #[.bool n1,.slice a1 L1.length c1,.int .i64 X1]) z1 X1 from ⟨n1,a1,c1,L1,rfl,i1⟩).below hb1a)
 have X:=hide (Box3.new w1 (.bool n1) (.slice a1 L1.length c1) (.int .i64 X1))
 have B1:=hide (hb1.trans (hb1a.mono hb1.size))
 clear i1 hb1 hb1a K1
 go_wp2_with fail
 refine (uH K2 _ (uH B1)).mono ?_
 rintro e w2 ⟨⟨v,rfl,hv⟩,hb1⟩
 obtain ⟨n2,a2,c2,L2,rfl,i2⟩:=hv
 have hb1a:Below w2.heap.size w2 (w2.alloc (.cells #[.bool n2,.slice a2 L2.length c2,.int .i64 X2] 47)):=(Below.refl _ _).alloc (Nat.le_refl _) _
 have HU:=hide ((show IsDy w2 (.agg #[.bool n2,.slice a2 L2.length c2,.int .i64 X2]) z2 X2 from ⟨n2,a2,c2,L2,rfl,i2⟩).below hb1a)
 have HV2:=hide (((uH HV).below hb1).below hb1a)
 have x1:=((uH X).all hb1).all hb1a
 have x2:=Box3.new w2 (.bool n2) (.slice a2 L2.length c2) (.int .i64 X2)
 have B2:=hide ((uH B1).trans ((hb1.trans (hb1a.mono hb1.size)).mono (uH B1).size))
 have y0:=x1.c0;have y1:=x1.c1;have y2:=x1.c2;have u0:=x2.c0;have u1:=x2.c1;have u2:=x2.c2
 clear i2 hb1 hb1a K2 B1 HV X x1 x2
 go_wp2_with fail
 refine (uH K3 _ _ _ (uH B2) (uH HV2) (uH HU)).mono ?_
 rintro e w3 ⟨⟨v,rfl,hv⟩,hb1⟩
 clear y0 y1 y2 u0 u1 u2
 obtain ⟨n3,a3,c3,L3,rfl,i3⟩:=hv
 have hb1a:Below w3.heap.size w3 (w3.alloc (.cells #[.bool n3,.slice a3 L3.length c3,.int .i64 X3] 47)):=(Below.refl _ _).alloc (Nat.le_refl _) _
 have HX:=hide ((show IsDy w3 (.agg #[.bool n3,.slice a3 L3.length c3,.int .i64 X3]) z3 X3 from ⟨n3,a3,c3,L3,rfl,i3⟩).below hb1a)
 have B3:=hide ((uH B2).trans ((hb1.trans (hb1a.mono hb1.size)).mono (uH B2).size))
 have x3:=Box3.new w3 (.bool n3) (.slice a3 L3.length c3) (.int .i64 X3)
 have y0:=x3.c0;have y1:=x3.c1;have y2:=x3.c2
 clear i3 hb1 hb1a K3 B2 HV2 HU x3
 generalize L3.length = l3 at *
 go_wp2_with fail
 refine (uH K4 _ _ (uH B3) (uH HX)).mono ?_
 rintro e w4 ⟨rfl,hb1⟩
 have B4:=hide ((uH B3).trans (hb1.mono (uH B3).size))
 clear hb1 K4 B3
 go_wp2
 exact bodyPost_ret (v:=.tuple #[.int .u64 o,.int .u8 fl]) (by simp [results,Tryz.results226,go_sem]) rfl ⟨rfl,uH B4⟩
theorem p4196:(2:Nat) ^ 2098 * 2 ^ 2098 = 2 ^ 4196:=by decide +kernel
theorem mZ_Lvl (a b:Nat) (fa:fFin a = true) (fb:fFin b = true):Lvl (-1074+-1074) 4196 (fZ a * fZ b):=by
 have h1:=fZ_lt a fa
 have h2:=fZ_lt b fb
 refine ⟨?_,by decide,by decide,by decide⟩
 have h3:=p4196
 have h4:=Nat.two_pow_pos 2098
 rw [Int.natAbs_mul]
 generalize (2:Nat) ^ 4196 = P at *
 generalize (2:Nat) ^ 2098 = Q at *
 rw [← h3]
 exact Nat.mul_lt_mul_of_lt_of_le h1 (Nat.le_of_lt h2) h4
theorem fZ_neg (b:Nat) (h0:fK b ≠ 0):fZ b ≠ 0∧decide (fZ b < 0) = fS b:=by
 have hr:rv (fR b) ≠ 0:=fun e=>h0 ((fK_zero b).2 ((rv_eq0 _).1 e))
 unfold fZ pv
 cases fS b
 ·simp only [Bool.false_eq_true,if_false]
  exact ⟨by omega,decide_eq_false (by omega)⟩
 ·simp only [if_true]
  exact ⟨by omega,decide_eq_true (by omega)⟩
theorem mZ_neg (a b:Nat) (a0:fK a ≠ 0) (b0:fK b ≠ 0):fZ a * fZ b ≠ 0∧decide (fZ a * fZ b < 0) = (fS a ^^ fS b):=by
 obtain ⟨h1,h2⟩:=fZ_neg a a0
 obtain ⟨h3,h4⟩:=fZ_neg b b0
 refine ⟨Int.mul_ne_zero h1 h3,?_⟩
 rw [← h2,← h4]
 generalize fZ a = x at *
 generalize fZ b = y at *
 rcases Int.lt_or_gt_of_ne h1 with hx | hx <;> rcases Int.lt_or_gt_of_ne h3 with hy | hy
 ·have:=Int.mul_pos_of_neg_of_neg hx hy
  rw [decide_eq_true hx,decide_eq_true hy,decide_eq_false (by omega)];rfl
 ·have:=Int.mul_neg_of_neg_of_pos hx hy
  rw [decide_eq_true hx,decide_eq_false (show ¬ y < 0 by omega),decide_eq_true this];rfl
 ·have:=Int.mul_neg_of_pos_of_neg hx hy
  rw [decide_eq_false (show ¬ x < 0 by omega),decide_eq_true hy,decide_eq_true this];rfl
 ·have:=Int.mul_pos hx hy
  rw [decide_eq_false (show ¬ x < 0 by omega),decide_eq_false (show ¬ y < 0 by omega),decide_eq_false (show ¬ x * y < 0 by omega)];rfl
theorem mulFinite_any (a b:Nat) (w:World) (ha:a < 18446744073709551616) (hb:b < 18446744073709551616) (fa:fFin a = true) (fb:fFin b = true) (a0:fK a ≠ 0) (b0:fK b ≠ 0) (hT:Tab w) :
  Calls Tryz.prog 226 #[.int .u64 a,.int .u64 b] w fun r w'=>r = .returned (.tuple #[.int .u64 (mV a b:Nat),.int .u8 (mF a b)])∧Below w.heap.size w w':=by
 obtain ⟨d1,d2⟩:=fZ_level a ha fa
 obtain ⟨d3,d4⟩:=fZ_level b hb fb
 have l3:=mZ_Lvl a b fa fb
 obtain ⟨z0,z1⟩:=mZ_neg a b a0 b0
 have C1:∀ w',Below w.heap.size w w'→_:=fun w' h=>value_some a w' ha fa (hT.all h)
 have C2:∀ w',Below w.heap.size w w'→_:=fun w' h=>value_some b w' hb fb (hT.all h)
 have C3:∀ w' v u,Below w.heap.size w w'→IsDy w' v (fD a) (fX a)→IsDy w' u (fD b) (fX b)→_:=fun w' v u h hv hu =>
  mulN (W1:=2099) (W2:=2099) (W:=4196) (lo1:=-1074) (lo2:=-1074) (z1:=fZ a) (z2:=fZ b) (by rw [d1,d2];exact hv) (by rw [d3,d4];exact hu) (fZ_Lvl a fa) (fZ_Lvl b fb) l3 (hT.all h)
 rw [(mV_fin a b fa fb a0 b0).1,(mV_fin a b fa fb a0 b0).2]
 have C4:∀ w' v,Below w.heap.size w w'→IsDy w' v (oM (fZ a * fZ b)) (oE (fZ a * fZ b) (-1074+-1074))→_:=fun w' v h hv=>round_dy hv l3.right.2 l3.right.1 (hT.all h)
 rw [(rnd_odd (fZ a * fZ b) (-1074+-1074)).1,oM_sign,z1,Int.natAbs_mul,fZ_abs,fZ_abs] at C4
 exact mulFinite_n a b _ _ _ _ _ _ _ w _ C1 C2 C3 C4
theorem tmul_n1 (a b:Nat) (kb:Int) (w:World) 
  (C1:∀ w',Calls Tryz.prog 103 #[.int .u64 a] w' fun r w''=>r = .returned (.int .i64 4)∧Below w'.heap.size w' w'')
  (C2:∀ w',Calls Tryz.prog 103 #[.int .u64 b] w' fun r w''=>r = .returned (.int .i64 kb)∧Below w'.heap.size w' w'') :
  Calls Tryz.prog 201 #[.int .u64 a,.int .u64 b] w fun r w'=>r = .returned (.tuple #[.int .u64 9221120237041090560,.int .u8 0])∧Below w.heap.size w w':=by
 have K1:=hide C1;have K2:=hide C2
 clear C1 C2
 go_enter Tryz.func201,Tryz.ntmps201
 go_wp2_with fail
 refine (uH K1 _).mono ?_
 rintro e w1 ⟨rfl,hb1⟩
 go_wp2_with fail
 refine (uH K2 _).mono ?_
 rintro e w2 ⟨rfl,hb2⟩
 have B:=hide (hb1.trans (hb2.mono hb1.size))
 clear hb1 hb2 K1 K2
 go_wp2
 exact bodyPost_ret (v:=.tuple #[.int .u64 9221120237041090560,.int .u8 0]) (by simp [results,Tryz.results201,go_sem]) rfl ⟨rfl,uH B⟩
theorem tmul_n2 (a b:Nat) (ka:Int) (w:World) (h0:(ka == 4) = false)
  (C1:∀ w',Calls Tryz.prog 103 #[.int .u64 a] w' fun r w''=>r = .returned (.int .i64 ka)∧Below w'.heap.size w' w'')
  (C2:∀ w',Calls Tryz.prog 103 #[.int .u64 b] w' fun r w''=>r = .returned (.int .i64 4)∧Below w'.heap.size w' w'') :
  Calls Tryz.prog 201 #[.int .u64 a,.int .u64 b] w fun r w'=>r = .returned (.tuple #[.int .u64 9221120237041090560,.int .u8 0])∧Below w.heap.size w w':=by
 have K1:=hide C1;have K2:=hide C2
 clear C1 C2
 go_enter Tryz.func201,Tryz.ntmps201
 go_wp2_with fail
 refine (uH K1 _).mono ?_
 rintro e w1 ⟨rfl,hb1⟩
 go_wp2_with fail
 refine (uH K2 _).mono ?_
 rintro e w2 ⟨rfl,hb2⟩
 have B:=hide (hb1.trans (hb2.mono hb1.size))
 clear hb1 hb2 K1 K2
 go_wp2
 exact bodyPost_ret (v:=.tuple #[.int .u64 9221120237041090560,.int .u8 0]) (by simp [results,Tryz.results201,go_sem]) rfl ⟨rfl,uH B⟩
theorem tmul_iz (a b:Nat) (w:World) 
  (C1:∀ w',Calls Tryz.prog 103 #[.int .u64 a] w' fun r w''=>r = .returned (.int .i64 3)∧Below w'.heap.size w' w'')
  (C2:∀ w',Calls Tryz.prog 103 #[.int .u64 b] w' fun r w''=>r = .returned (.int .i64 0)∧Below w'.heap.size w' w'') :
  Calls Tryz.prog 201 #[.int .u64 a,.int .u64 b] w fun r w'=>r = .returned (.tuple #[.int .u64 9221120237041090560,.int .u8 16])∧Below w.heap.size w w':=by
 have K1:=hide C1;have K2:=hide C2
 clear C1 C2
 go_enter Tryz.func201,Tryz.ntmps201
 go_wp2_with fail
 refine (uH K1 _).mono ?_
 rintro e w1 ⟨rfl,hb1⟩
 go_wp2_with fail
 refine (uH K2 _).mono ?_
 rintro e w2 ⟨rfl,hb2⟩
 have B:=hide (hb1.trans (hb2.mono hb1.size))
 clear hb1 hb2 K1 K2
 go_wp2
 exact bodyPost_ret (v:=.tuple #[.int .u64 9221120237041090560,.int .u8 16]) (by simp [results,Tryz.results201,go_sem]) rfl ⟨rfl,uH B⟩
theorem tmul_zi (a b:Nat) (w:World) 
  (C1:∀ w',Calls Tryz.prog 103 #[.int .u64 a] w' fun r w''=>r = .returned (.int .i64 0)∧Below w'.heap.size w' w'')
  (C2:∀ w',Calls Tryz.prog 103 #[.int .u64 b] w' fun r w''=>r = .returned (.int .i64 3)∧Below w'.heap.size w' w'') :
  Calls Tryz.prog 201 #[.int .u64 a,.int .u64 b] w fun r w'=>r = .returned (.tuple #[.int .u64 9221120237041090560,.int .u8 16])∧Below w.heap.size w w':=by
 have K1:=hide C1;have K2:=hide C2
 clear C1 C2
 go_enter Tryz.func201,Tryz.ntmps201
 go_wp2_with fail
 refine (uH K1 _).mono ?_
 rintro e w1 ⟨rfl,hb1⟩
 go_wp2_with fail
 refine (uH K2 _).mono ?_
 rintro e w2 ⟨rfl,hb2⟩
 have B:=hide (hb1.trans (hb2.mono hb1.size))
 clear hb1 hb2 K1 K2
 go_wp2
 exact bodyPost_ret (v:=.tuple #[.int .u64 9221120237041090560,.int .u8 16]) (by simp [results,Tryz.results201,go_sem]) rfl ⟨rfl,uH B⟩
theorem tmul_i (a b:Nat) (kb:Int) (o:Nat) (w:World) (h0:(kb == 4) = false) (h1:(kb == 0) = false)
  (C1:∀ w',Calls Tryz.prog 103 #[.int .u64 a] w' fun r w''=>r = .returned (.int .i64 3)∧Below w'.heap.size w' w'')
  (C2:∀ w',Calls Tryz.prog 103 #[.int .u64 b] w' fun r w''=>r = .returned (.int .i64 kb)∧Below w'.heap.size w' w'')
  (C3:∀ w',Calls Tryz.prog 225 #[.int .u64 9218868437227405312,.int .u64 a,.int .u64 b] w' fun r w''=>r = .returned (.int .u64 (o:Nat))∧Below w'.heap.size w' w'') :
  Calls Tryz.prog 201 #[.int .u64 a,.int .u64 b] w fun r w'=>r = .returned (.tuple #[.int .u64 (o:Nat),.int .u8 0])∧Below w.heap.size w w':=by
 have K1:=hide C1;have K2:=hide C2
 clear C1 C2
 go_enter Tryz.func201,Tryz.ntmps201
 go_wp2_with fail
 refine (uH K1 _).mono ?_
 rintro e w1 ⟨rfl,hb1⟩
 go_wp2_with fail
 refine (uH K2 _).mono ?_
 rintro e w2 ⟨rfl,hb2⟩
 have B:=hide (hb1.trans (hb2.mono hb1.size))
 clear hb1 hb2 K1 K2
 have K3:=hide C3
 clear C3
 go_wp2_with fail
 refine (uH K3 _).mono ?_
 rintro e w3 ⟨rfl,hb3⟩
 have B:=hide ((uH B).trans (hb3.mono (uH B).size))
 clear hb3 K3
 go_wp2
 exact bodyPost_ret (v:=.tuple #[.int .u64 (o:Nat),.int .u8 0]) (by simp [results,Tryz.results201,go_sem]) rfl ⟨rfl,uH B⟩
theorem tmul_j (a b:Nat) (ka:Int) (o:Nat) (w:World) (h0:(ka == 4) = false) (h1:(ka == 0) = false) (h2:(ka == 3) = false)
  (C1:∀ w',Calls Tryz.prog 103 #[.int .u64 a] w' fun r w''=>r = .returned (.int .i64 ka)∧Below w'.heap.size w' w'')
  (C2:∀ w',Calls Tryz.prog 103 #[.int .u64 b] w' fun r w''=>r = .returned (.int .i64 3)∧Below w'.heap.size w' w'')
  (C3:∀ w',Calls Tryz.prog 225 #[.int .u64 9218868437227405312,.int .u64 a,.int .u64 b] w' fun r w''=>r = .returned (.int .u64 (o:Nat))∧Below w'.heap.size w' w'') :
  Calls Tryz.prog 201 #[.int .u64 a,.int .u64 b] w fun r w'=>r = .returned (.tuple #[.int .u64 (o:Nat),.int .u8 0])∧Below w.heap.size w w':=by
 have K1:=hide C1;have K2:=hide C2
 clear C1 C2
 go_enter Tryz.func201,Tryz.ntmps201
 go_wp2_with fail
 refine (uH K1 _).mono ?_
 rintro e w1 ⟨rfl,hb1⟩
 go_wp2_with fail
 refine (uH K2 _).mono ?_
 rintro e w2 ⟨rfl,hb2⟩
 have B:=hide (hb1.trans (hb2.mono hb1.size))
 clear hb1 hb2 K1 K2
 have K3:=hide C3
 clear C3
 go_wp2_with fail
 refine (uH K3 _).mono ?_
 rintro e w3 ⟨rfl,hb3⟩
 have B:=hide ((uH B).trans (hb3.mono (uH B).size))
 clear hb3 K3
 go_wp2
 exact bodyPost_ret (v:=.tuple #[.int .u64 (o:Nat),.int .u8 0]) (by simp [results,Tryz.results201,go_sem]) rfl ⟨rfl,uH B⟩
theorem tmul_z (a b:Nat) (kb:Int) (o:Nat) (w:World) (h0:(kb == 4) = false) (h1:(kb == 3) = false)
  (C1:∀ w',Calls Tryz.prog 103 #[.int .u64 a] w' fun r w''=>r = .returned (.int .i64 0)∧Below w'.heap.size w' w'')
  (C2:∀ w',Calls Tryz.prog 103 #[.int .u64 b] w' fun r w''=>r = .returned (.int .i64 kb)∧Below w'.heap.size w' w'')
  (C3:∀ w',Calls Tryz.prog 225 #[.int .u64 0,.int .u64 a,.int .u64 b] w' fun r w''=>r = .returned (.int .u64 (o:Nat))∧Below w'.heap.size w' w'') :
  Calls Tryz.prog 201 #[.int .u64 a,.int .u64 b] w fun r w'=>r = .returned (.tuple #[.int .u64 (o:Nat),.int .u8 0])∧Below w.heap.size w w':=by
 have K1:=hide C1;have K2:=hide C2
 clear C1 C2
 go_enter Tryz.func201,Tryz.ntmps201
 go_wp2_with fail
 refine (uH K1 _).mono ?_
 rintro e w1 ⟨rfl,hb1⟩
 go_wp2_with fail
 refine (uH K2 _).mono ?_
 rintro e w2 ⟨rfl,hb2⟩
 have B:=hide (hb1.trans (hb2.mono hb1.size))
 clear hb1 hb2 K1 K2
 have K3:=hide C3
 clear C3
 go_wp2_with fail
 refine (uH K3 _).mono ?_
 rintro e w3 ⟨rfl,hb3⟩
 have B:=hide ((uH B).trans (hb3.mono (uH B).size))
 clear hb3 K3
 go_wp2
 exact bodyPost_ret (v:=.tuple #[.int .u64 (o:Nat),.int .u8 0]) (by simp [results,Tryz.results201,go_sem]) rfl ⟨rfl,uH B⟩
theorem tmul_y (a b:Nat) (ka:Int) (o:Nat) (w:World) (h0:(ka == 4) = false) (h1:(ka == 3) = false) (h2:(ka == 0) = false)
  (C1:∀ w',Calls Tryz.prog 103 #[.int .u64 a] w' fun r w''=>r = .returned (.int .i64 ka)∧Below w'.heap.size w' w'')
  (C2:∀ w',Calls Tryz.prog 103 #[.int .u64 b] w' fun r w''=>r = .returned (.int .i64 0)∧Below w'.heap.size w' w'')
  (C3:∀ w',Calls Tryz.prog 225 #[.int .u64 0,.int .u64 a,.int .u64 b] w' fun r w''=>r = .returned (.int .u64 (o:Nat))∧Below w'.heap.size w' w'') :
  Calls Tryz.prog 201 #[.int .u64 a,.int .u64 b] w fun r w'=>r = .returned (.tuple #[.int .u64 (o:Nat),.int .u8 0])∧Below w.heap.size w w':=by
 have K1:=hide C1;have K2:=hide C2
 clear C1 C2
 go_enter Tryz.func201,Tryz.ntmps201
 go_wp2_with fail
 refine (uH K1 _).mono ?_
 rintro e w1 ⟨rfl,hb1⟩
 go_wp2_with fail
 refine (uH K2 _).mono ?_
 rintro e w2 ⟨rfl,hb2⟩
 have B:=hide (hb1.trans (hb2.mono hb1.size))
 clear hb1 hb2 K1 K2
 have K3:=hide C3
 clear C3
 go_wp2_with fail
 refine (uH K3 _).mono ?_
 rintro e w3 ⟨rfl,hb3⟩
 have B:=hide ((uH B).trans (hb3.mono (uH B).size))
 clear hb3 K3
 go_wp2
 exact bodyPost_ret (v:=.tuple #[.int .u64 (o:Nat),.int .u8 0]) (by simp [results,Tryz.results201,go_sem]) rfl ⟨rfl,uH B⟩
theorem tmul_f (a b:Nat) (ka kb:Int) (fl:Int) (o:Nat) (w:World) (h0:(ka == 4) = false) (h1:(ka == 3) = false) (h2:(ka == 0) = false) (h3:(kb == 4) = false) (h4:(kb == 3) = false) (h5:(kb == 0) = false) (hT:Tab w)
  (C1:∀ w',Calls Tryz.prog 103 #[.int .u64 a] w' fun r w''=>r = .returned (.int .i64 ka)∧Below w'.heap.size w' w'')
  (C2:∀ w',Calls Tryz.prog 103 #[.int .u64 b] w' fun r w''=>r = .returned (.int .i64 kb)∧Below w'.heap.size w' w'')
  (C3:∀ w',Tab w'→Calls Tryz.prog 226 #[.int .u64 a,.int .u64 b] w' fun r w''=>r = .returned (.tuple #[.int .u64 (o:Nat),.int .u8 fl])∧Below w'.heap.size w' w'') :
  Calls Tryz.prog 201 #[.int .u64 a,.int .u64 b] w fun r w'=>r = .returned (.tuple #[.int .u64 (o:Nat),.int .u8 fl])∧Below w.heap.size w w':=by
 have K1:=hide C1;have K2:=hide C2
 clear C1 C2
 go_enter Tryz.func201,Tryz.ntmps201
 go_wp2_with fail
 refine (uH K1 _).mono ?_
 rintro e w1 ⟨rfl,hb1⟩
 go_wp2_with fail
 refine (uH K2 _).mono ?_
 rintro e w2 ⟨rfl,hb2⟩
 have B:=hide (hb1.trans (hb2.mono hb1.size))
 clear hb1 hb2 K1 K2
 have K3:=hide C3;have HT:=hide (hT.all (uH B))
 clear C3 hT
 go_wp2_with fail
 refine (uH K3 _ (uH HT)).mono ?_
 rintro e w3 ⟨rfl,hb3⟩
 have B:=hide ((uH B).trans (hb3.mono (uH B).size))
 clear hb3 K3 HT
 go_wp2
 exact bodyPost_ret (v:=.tuple #[.int .u64 (o:Nat),.int .u8 fl]) (by simp [results,Tryz.results201,go_sem]) rfl ⟨rfl,uH B⟩
theorem tmul_any (a b:Nat) (w:World) (ha:a < 18446744073709551616) (hb:b < 18446744073709551616) (hT:Tab w) :
  Calls Tryz.prog 201 #[.int .u64 a,.int .u64 b] w fun r w'=>r = .returned (.tuple #[.int .u64 (mV a b:Nat),.int .u8 (mF a b)])∧Below w.heap.size w w':=by
 have C1:=fun w'=>kind_any a w' ha
 have C2:=fun w'=>kind_any b w' hb
 have CI:=fun w'=>tsigned_any 9218868437227405312 a b w' ha hb (by decide)
 have CZ:=fun w'=>tsigned_any 0 a b w' ha hb (by decide)
 by_cases a4:fK a = 4
 ·rw [show mV a b = 9221120237041090560 by unfold mV;rw [if_pos (Or.inl a4)],show mF a b = 0 by unfold mF;rw [if_pos (Or.inl a4)]]
  rw [a4] at C1
  exact tmul_n1 a b _ w C1 C2
 by_cases b4:fK b = 4
 ·rw [show mV a b = 9221120237041090560 by unfold mV;rw [if_pos (Or.inr b4)],show mF a b = 0 by unfold mF;rw [if_pos (Or.inr b4)]]
  rw [b4] at C2
  exact tmul_n2 a b _ w (by simp [a4]) C1 C2
 have n4:¬ (fK a = 4 ∨ fK b = 4):=by omega
 by_cases h3:fK a = 3 ∨ fK b = 3
 ·by_cases h0:fK a = 0 ∨ fK b = 0
  ·rw [show mV a b = 9221120237041090560 by unfold mV;rw [if_neg n4,if_pos h3,if_pos h0],show mF a b = 16 by unfold mF;rw [if_neg n4,if_pos h3,if_pos h0]]
   by_cases a3:fK a = 3
   ·have b0:fK b = 0:=by omega
    rw [a3] at C1
    rw [b0] at C2
    exact tmul_iz a b w C1 C2
   ·have b3:fK b = 3:=by omega
    have a0:fK a = 0:=by omega
    rw [a0] at C1
    rw [b3] at C2
    exact tmul_zi a b w C1 C2
  ·rw [show mV a b = wrd (fS a ^^ fS b) 9218868437227405312 by unfold mV;rw [if_neg n4,if_pos h3,if_neg h0],show mF a b = 0 by unfold mF;rw [if_neg n4,if_pos h3,if_neg h0]]
   by_cases a3:fK a = 3
   ·rw [a3] at C1
    exact tmul_i a b _ _ w (by simp [b4]) (by simp;omega) C1 C2 CI
   ·have b3:fK b = 3:=by omega
    rw [b3] at C2
    exact tmul_j a b _ _ w (by simp [a4]) (by simp;omega) (by simp [a3]) C1 C2 CI
 ·by_cases h0:fK a = 0 ∨ fK b = 0
  ·have hz:rv (fR a) * rv (fR b) = 0:=by
    rcases h0 with h | h
    ·rw [(rv_eq0 _).2 ((fK_zero a).1 h),Nat.zero_mul]
    ·rw [(rv_eq0 _).2 ((fK_zero b).1 h),Nat.mul_zero]
   rw [show mV a b = wrd (fS a ^^ fS b) 0 by unfold mV;rw [if_neg n4,if_neg h3,hz,rnd_0],show mF a b = 0 by unfold mF;rw [if_neg n4,if_neg h3,if_pos h0]]
   by_cases a0:fK a = 0
   ·rw [a0] at C1
    exact tmul_z a b _ _ w (by simp [b4]) (by simp;omega) C1 C2 CZ
   ·have b0:fK b = 0:=by omega
    rw [b0] at C2
    exact tmul_y a b _ _ w (by simp [a4]) (by simp;omega) (by simp [a0]) C1 C2 CZ
  ·exact tmul_f a b _ _ _ _ w (by simp [a4]) (by simp;omega) (by simp;omega) (by simp [b4]) (by simp;omega) (by simp;omega) hT C1 C2 (fun w' t=>mulFinite_any a b w' ha hb (fin_of a (by omega) a4) (fin_of b (by omega) b4) (by omega) (by omega) t)
end Go.Proofs.YtlnphkioddknfaaGreatDoor
