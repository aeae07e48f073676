/- Part 24 of the texts. -/
import Derived.Test.YtlnphkioddknfaaGreatDoorPartu23
import Derived.Test.YtlnphkioddknfaaGreatDoorPartu22
import Derived.Test.YtlnphkioddknfaaGreatDoorPartu16
import Derived.Test.YtlnphkioddknfaaGreatDoorPartu21
import Derived.Test.YtlnphkioddknfaaGreatDoorPartu10
import Derived.Test.YtlnphkioddknfaaGreatDoorPartu07
import Derived.Test.YtlnphkioddknfaaGreatDoorPartu17
import Derived.Test.YtlnphkioddknfaaGreatDoorPartu18
import Derived.Deep.Cut
import Derived.BigQuiet
import Derived.Test.YtlnphkioddknfaaGreatDoorPartu20
import Derived.Test.YtlnphkioddknfaaGreatDoorPartu19
import Derived.Test.YtlnphkioddknfaaGreatDoorPartu13
import Derived.Test.YtlnphkioddknfaaGreatDoorPartu12
import Derived.Deep.RegionHeld3
import Derived.Test.YtlnphkioddknfaaGreatDoorPartu09
import Derived.Laws.BitsAllLaws
set_option maxHeartbeats 4000000
set_option maxRecDepth 20000
namespace Go.Proofs.YtlnphkioddknfaaGreatDoor
open Go.RowKit
theorem IsDy.limbs {w:World} {n:Bool} {a:Option Addr} {l c:Nat} {X m Y:Int} (h:IsDy w (.agg #[.bool n,.slice a l c,.int .i64 X]) m Y) (hm:m.natAbs < TOP) :
  ∃ L,l = L.length∧LimbsAt w a c L∧rightB false L = true∧val L = m.natAbs∧L.length≤512:=by
 obtain ⟨n',a',c',L,e1,h1,h2,h3,h4,h5⟩:=h.right hm
 simp only [Value.agg.injEq,Array.mk.injEq,List.cons.injEq,Value.bool.injEq,Value.slice.injEq,and_true] at e1
 obtain ⟨rfl,⟨rfl,e2,rfl⟩,_⟩:=e1
 have hr:rightB false L = true:=by
  simp only [rightB,Bool.and_eq_true,decide_eq_true_eq,Bool.not_eq_true',Bool.and_eq_false_iff,decide_eq_false_iff_not,Bool.or_eq_true] at h2 ⊢
  exact ⟨⟨h2.1.1,Or.inr trivial⟩,h2.2⟩
 exact ⟨L,e2,h1,hr,by rw [← h3,natAbs_sval],h4⟩
theorem small6 {B:Nat} {w:World} {v:Value} {x:Int} (hv:IsNum B w v x) (h0:-9223372036854775808≤x) (h1:x≤9223372036854775807) :
  Calls Tryz.prog 267 #[v] w fun e w'=>e = .returned (.tuple #[.int .i64 x,.int .i64 0])∧Below w.heap.size w w':=by
 obtain ⟨na,ao,ca,A,rfl,a1,a2,a3,a4⟩:=hv.right (small_TOP _ (by omega))
 have:=small_any na ao ca A w a1 (by omega)
 have hf:fits64 x = true:=by unfold fits64;rw [decide_eq_true (by omega)]
 rwa [show smV na A = x by unfold smV;rw [a2,a3,hf];rfl,show smE na A = 0 by unfold smE;rw [a2,a3,hf];rfl] at this
theorem sizeOf_any (b:Nat) (w:World) (hb:b < 18446744073709551616) (hf:fFin b = true) (h0:fK b ≠ 0) (hT:Tab w) :
  Calls Tryz.prog 247 #[.int .u64 b] w fun r w'=>r = .returned (.tuple #[.int .i64 (dS b:Nat),.int .i64 (dT b)])∧Below w.heap.size w w':=by
 obtain ⟨x1,x2,x3,x4,x5,x6,x7,x8⟩:=dS_facts b hb hf h0
 have hm:(fD b).natAbs < TOP:=small_TOP _ (by omega)
 have hS:(dS b:Int) = ((fD b).natAbs * 2 ^ (53 - (bl (fD b).natAbs:Int)).toNat:Nat):=by
  unfold dS
  rw [show (53 - (bl (fD b).natAbs:Int)).toNat = 53 - bl (fD b).natAbs by omega]
 refine sizeOf_ways b (fD b) (fX b) (dS b:Nat) (bl (fD b).natAbs:Nat) (dT b) w (by omega) (fun w' h=>value_some b w' hb hf (hT.all h)) ?_ ?_ ?_ ?_
 ·intro w' n a l c h
  obtain ⟨L,rfl,h1,h2,h3,h4⟩:=h.limbs hm
  have:=len_any false a c L w' h1 (by omega)
  rwa [lenL_bl h1.2.1 h2,h3] at this
 ·intro w' n a l c h
  obtain ⟨L,rfl,h1,h2,h3,h4⟩:=h.limbs hm
  have:=shift_any false a c L (53 - (bl (fD b).natAbs:Int)) w' h1 (by omega) (by omega)
  have hV:shV false L (53 - (bl (fD b).natAbs:Int)) = (dS b:Int):=by
   unfold shV
   rw [if_pos (by omega),h3,hS];rfl
  have hok:shOk false L (53 - (bl (fD b).natAbs:Int)) = true:=by unfold shOk;rw [h2,decide_eq_true (by omega)];rfl
  have hz:((dS b:Nat):Int).natAbs < TOP:=small_TOP _ (by omega)
  rwa [show shE false L (53 - (bl (fD b).natAbs:Int)) = 0 by unfold shE;rw [hok,if_pos rfl,hV,errOf_small _ hz],show shN false L (53 - (bl (fD b).natAbs:Int)) = (dS b:Nat) by unfold shN;rw [hok,if_pos rfl,hV,numOf_small _ hz]] at this
 ·intro B w' v h
  exact small6 h (by omega) (by omega)
 ·intro w' n a l c h
  obtain ⟨L,rfl,h1,h2,h3,h4⟩:=h.limbs hm
  have:=dtop_any false a c L (fX b) w' h1 (by omega)
  rwa [lenL_bl h1.2.1 h2,h3,wrap_small _ (by omega)] at this
theorem divFinite_n (a b:Nat) (x y tx ty q E M X fl:Int) (w:World) (r o:Nat) (ht:-3000≤tx∧tx≤3000∧-3000≤ty∧ty≤3000) (hE:E = tx - ty - 55)
  (C1:∀ w',Below w.heap.size w w'→Calls Tryz.prog 247 #[.int .u64 a] w' fun r w''=>r = .returned (.tuple #[.int .i64 x,.int .i64 tx])∧Below w'.heap.size w' w'')
  (C2:∀ w',Below w.heap.size w w'→Calls Tryz.prog 247 #[.int .u64 b] w' fun r w''=>r = .returned (.tuple #[.int .i64 y,.int .i64 ty])∧Below w'.heap.size w' w'')
  (C3:∀ w',Calls Tryz.prog 248 #[.int .i64 x,.int .i64 y] w' fun r w''=>r = .returned (.int .i64 q)∧w' = w'')
  (C4:∀ w',Calls Tryz.prog 230 #[.int .i64 q] w' fun r w''=>∃ v,r = .returned v∧IsNum w'.heap.size w'' v q∧Below w'.heap.size w' w'')
  (C5:∀ B w' v,Below w.heap.size w w'→IsNum B w' v q→Calls Tryz.prog 229 #[v,.int .i64 E] w' fun r w''=>DyR w'' r 0 M X∧Below w'.heap.size w' w'')
  (C6:∀ w' v,Below w.heap.size w w'→IsDy w' v M X→Calls Tryz.prog 205 #[v] w' fun s w''=>s = .returned (.tuple #[.int .u64 (r:Nat),.int .u8 fl,.int .i64 0])∧Below w'.heap.size w' w'')
  (C7:∀ w',Calls Tryz.prog 225 #[.int .u64 (r:Nat),.int .u64 a,.int .u64 b] w' fun s w''=>s = .returned (.int .u64 (o:Nat))∧Below w'.heap.size w' w'') :
  Calls Tryz.prog 227 #[.int .u64 a,.int .u64 b] w fun s w'=>s = .returned (.tuple #[.int .u64 (o:Nat),.int .u8 fl])∧Below w.heap.size w w':=by
 have K1:=hide C1;have K2:=hide C2;have K3:=hide C3;have K4:=hide C4;have K5:=hide C5;have K6:=hide C6;have K7:=hide C7
 clear C1 C2 C3 C4 C5 C6 C7
 have e1:=wrap_small (tx - ty) (by omega)
 have e2:=wrap_small (tx - ty - 55) (by omega)
 rw [← hE] at e2
 go_enter Tryz.func227,Tryz.ntmps227
 go_wp2_with fail
 refine (uH K1 _ (Below.refl _ _)).mono ?_
 rintro e w1 ⟨rfl,hb1⟩
 have B1:=hide hb1
 clear hb1 K1
 go_wp2_with fail
 refine (uH K2 _ (uH B1)).mono ?_
 rintro e w2 ⟨rfl,hb1⟩
 have B2:=hide ((uH B1).trans (hb1.mono (uH B1).size))
 clear hb1 K2 B1
 go_wp2_with fail
 refine (uH K3 _).mono ?_
 rintro e wk ⟨rfl,rfl⟩
 go_wp2_with fail
 refine (uH K4 _).mono ?_
 rintro e w3 ⟨v,rfl,⟨n3,a3,c3,L3,rfl,i3⟩,hb1⟩
 have B3:=hide ((uH B2).trans (hb1.mono (uH B2).size))
 have I3:=hide (show IsNum w2.heap.size w3 (.agg #[.bool n3,.slice a3 L3.length c3]) q from ⟨n3,a3,c3,L3,rfl,i3⟩)
 clear hb1 K3 K4 B2 i3
 generalize L3.length = l3 at *
 subst hE
 go_wp2_with fail
 refine (uH K5 _ _ _ (uH B3) (uH I3)).mono ?_
 rintro e w4 ⟨⟨v,rfl,hv⟩,hb1⟩
 obtain ⟨n1,a1,c1,L1,rfl,i1⟩:=hv
 have hb1a:Below w4.heap.size w4 (w4.alloc (.cells #[.bool n1,.slice a1 L1.length c1,.int .i64 X] 47)):=(Below.refl _ _).alloc (Nat.le_refl _) _
 have HX:=hide ((show IsDy w4 (.agg #[.bool n1,.slice a1 L1.length c1,.int .i64 X]) M X from ⟨n1,a1,c1,L1,rfl,i1⟩).below hb1a)
 have B4:=hide ((uH B3).trans ((hb1.trans (hb1a.mono hb1.size)).mono (uH B3).size))
 have x3:=Box3.new w4 (.bool n1) (.slice a1 L1.length c1) (.int .i64 X)
 have y0:=x3.c0;have y1:=x3.c1;have y2:=x3.c2
 clear i1 hb1 hb1a K5 B3 x3 I3
 generalize L1.length = l1 at *
 go_wp2_with fail
 refine (uH K6 _ _ (uH B4) (uH HX)).mono ?_
 rintro e w5 ⟨rfl,hb1⟩
 have B5:=hide ((uH B4).trans (hb1.mono (uH B4).size))
 clear hb1 K6 B4 y0 y1 y2 HX
 go_wp2_with fail
 refine (uH K7 _).mono ?_
 rintro e w6 ⟨rfl,hb1⟩
 have B6:=hide ((uH B5).trans (hb1.mono (uH B5).size))
 clear hb1 K7 B5
 go_wp2
 exact bodyPost_ret (v:=.tuple #[.int .u64 o,.int .u8 fl]) (by simp [results,Tryz.results227,go_sem]) rfl ⟨rfl,uH B6⟩
theorem lt57 {S:Nat} (h:S < 144115188075855872):S < 2 ^ 57:=by
 have:(2:Nat) ^ 57 = 144115188075855872:=by decide
 omega
theorem divFinite_of (a b S sx sy r:Nat) (tx ty fl:Int) (w:World) (ha:a < 18446744073709551616) (hb:b < 18446744073709551616) (hr:r≤9218868437227405312)
  (ht:-1100≤tx∧tx≤1100∧-1100≤ty∧ty≤1100) (s1:S ≠ 0) (s2:S < 144115188075855872)
  (q1:rnd S (tx - ty - 55) = r) (q2:rflag (oM (S:Nat)).natAbs (oE (S:Nat) (tx - ty - 55)) = fl) (hT:Tab w)
  (C1:∀ w',Below w.heap.size w w'→Calls Tryz.prog 247 #[.int .u64 a] w' fun r w''=>r = .returned (.tuple #[.int .i64 (sx:Nat),.int .i64 tx])∧Below w'.heap.size w' w'')
  (C2:∀ w',Below w.heap.size w w'→Calls Tryz.prog 247 #[.int .u64 b] w' fun r w''=>r = .returned (.tuple #[.int .i64 (sy:Nat),.int .i64 ty])∧Below w'.heap.size w' w'')
  (C3:∀ w',Calls Tryz.prog 248 #[.int .i64 (sx:Nat),.int .i64 (sy:Nat)] w' fun r w''=>r = .returned (.int .i64 (S:Nat))∧w' = w'') :
  Calls Tryz.prog 227 #[.int .u64 a,.int .u64 b] w fun s w'=>s = .returned (.tuple #[.int .u64 (wrd (fS a ^^ fS b) r:Nat),.int .u8 fl])∧Below w.heap.size w w':=by
 have hz:((S:Nat):Int).natAbs < TOP:=small_TOP _ (by omega)
 have hz0:((S:Nat):Int) ≠ 0:=by omega
 have htz:tz ((S:Nat):Int).natAbs < 57:=tz_lt _ 57 (by omega) (by rw [Int.natAbs_natCast];exact lt57 s2)
 obtain ⟨E,hE⟩:∃ E,E = tx - ty - 55:=⟨_,rfl⟩
 rw [← hE] at q1 q2
 have hE2:-2300≤E∧E≤2300:=by omega
 have hok:dOk (S:Nat) E = true:=by
  unfold dOk
  rw [decide_eq_true (show -32768≤E∧E≤32768 by omega),decide_eq_true (show -16384≤E+(tz ((S:Nat):Int).natAbs:Int)∧E+(tz ((S:Nat):Int).natAbs:Int)≤16384 by omega),Bool.or_true]
  rfl
 have hRt:dRt (oM (S:Nat)) (oE (S:Nat) E) = true:=by
  unfold dRt
  rw [if_neg (oM_ne _ hz0).1,oE_ne _ _ hz0,decide_eq_true (oM_ne _ hz0).2,decide_eq_true (by omega)]
  rfl
 have hle:(oM (S:Nat)).natAbs < TOP:=Nat.lt_of_le_of_lt (oM_le _) hz
 have C6:∀ w' v,Below w.heap.size w w'→IsDy w' v (oM (S:Nat)) (oE (S:Nat) E)→_:=fun w' v h hv=>round_dy hv hle hRt (hT.all h)
 rw [(rnd_odd ((S:Nat):Int) E).1,oM_sign,decide_eq_false (show ¬ ((S:Nat):Int) < 0 by omega),wrd_false,Int.natAbs_natCast,q1,q2] at C6
 refine divFinite_n a b (sx:Nat) (sy:Nat) tx ty (S:Nat) E _ _ _ w _ _ (by omega) hE C1 C2 C3
  (fun w'=>of_any _ w' (by omega) (by omega)) (fun B w' v h hv=>?_) C6 (fun w'=>tsigned_any r a b w' ha hb (by omega))
 have:=make_num E hv hz (by omega) (hT.all h)
 unfold dErr dM dX at this
 rw [hok] at this
 exact this.mono fun r w'' ⟨u,g1,g2,g3⟩=>⟨⟨u,g1,g2⟩,g3⟩
theorem pS_def (a b:Nat):stk (dS a * 2 ^ 54) (dS b) = pS a b:=by unfold pS;rfl
theorem dT_in (b:Nat) (hb:b < 18446744073709551616) (hf:fFin b = true) (h0:fK b ≠ 0):-1100≤dT b∧dT b≤1100:=by
 obtain ⟨x1,x2,x3,x4,x5,x6,x7,x8⟩:=dS_facts b hb hf h0
 unfold dT
 omega
theorem divFinite_any (a b:Nat) (w:World) (ha:a < 18446744073709551616) (hb:b < 18446744073709551616) (fa:fFin a = true) (fb:fFin b = true) (a0:fK a ≠ 0) (b0:fK b ≠ 0) (hT:Tab w) :
  Calls Tryz.prog 227 #[.int .u64 a,.int .u64 b] w fun r w'=>r = .returned (.tuple #[.int .u64 (dV a b:Nat),.int .u8 (dF a b)])∧Below w.heap.size w w':=by
 obtain ⟨y1,y2,y3,y4,y5,y6,y7,y8⟩:=dS_facts b hb fb b0
 obtain ⟨s1,s2,s3⟩:=pS_facts a b ha hb fa fb a0 b0
 obtain ⟨q1,q2⟩:=quo_prog a b ha hb fa fb a0 b0
 have hr:qV a b≤9218868437227405312:=rnd_le _ _
 have C3:=fun w'=>quotient_any (dS a) (dS b) w' y4 s3
 have t1:=dT_in a ha fa a0
 have t2:=dT_in b hb fb b0
 have e1:=(dV_fin a b fa fb a0 b0).1
 have e2:=(dV_fin a b fa fb a0 b0).2
 rw [pS_def] at C3
 rw [e1,e2]
 exact divFinite_of a b (pS a b) (dS a) (dS b) (qV a b) (dT a) (dT b) (qF a b) w ha hb hr ⟨t1.1,t1.2,t2.1,t2.2⟩ s1 s2 q1 q2 hT (fun w' h=>sizeOf_any a w' ha fa a0 (hT.all h)) (fun w' h=>sizeOf_any b w' hb fb b0 (hT.all h)) C3
end Go.Proofs.YtlnphkioddknfaaGreatDoor
namespace Go.Proofs.YtlnphkioddknfaaGreatDoor
open Go.RowKit
theorem tdiv_n1 (a b:Nat) (kb:Int) (w:World) 
  (C1:∀ w',Calls Tryz.prog 103 #[.int .u64 a] w' fun r w''=>r = .returned (.int .i64 4)∧Below w'.heap.size w' w'')
  (C2:∀ w',Calls Tryz.prog 103 #[.int .u64 b] w' fun r w''=>r = .returned (.int .i64 kb)∧Below w'.heap.size w' w'') :
  Calls Tryz.prog 202 #[.int .u64 a,.int .u64 b] w fun r w'=>r = .returned (.tuple #[.int .u64 9221120237041090560,.int .u8 0])∧Below w.heap.size w w':=by
 have K1:=hide C1;have K2:=hide C2
 clear C1 C2
 go_enter Tryz.func202,Tryz.ntmps202
 go_wp2_with fail
 refine (uH K1 _).mono ?_
 rintro e w1 ⟨rfl,hb1⟩
 go_wp2_with fail
 refine (uH K2 _).mono ?_
 rintro e w2 ⟨rfl,hb2⟩
 have B:=hide (hb1.trans (hb2.mono hb1.size))
 clear hb1 hb2 K1 K2
 go_wp2
 exact bodyPost_ret (v:=.tuple #[.int .u64 9221120237041090560,.int .u8 0]) (by simp [results,Tryz.results202,go_sem]) rfl ⟨rfl,uH B⟩
theorem tdiv_n2 (a b:Nat) (ka:Int) (w:World) (h0:(ka == 4) = false)
  (C1:∀ w',Calls Tryz.prog 103 #[.int .u64 a] w' fun r w''=>r = .returned (.int .i64 ka)∧Below w'.heap.size w' w'')
  (C2:∀ w',Calls Tryz.prog 103 #[.int .u64 b] w' fun r w''=>r = .returned (.int .i64 4)∧Below w'.heap.size w' w'') :
  Calls Tryz.prog 202 #[.int .u64 a,.int .u64 b] w fun r w'=>r = .returned (.tuple #[.int .u64 9221120237041090560,.int .u8 0])∧Below w.heap.size w w':=by
 have K1:=hide C1;have K2:=hide C2
 clear C1 C2
 go_enter Tryz.func202,Tryz.ntmps202
 go_wp2_with fail
 refine (uH K1 _).mono ?_
 rintro e w1 ⟨rfl,hb1⟩
 go_wp2_with fail
 refine (uH K2 _).mono ?_
 rintro e w2 ⟨rfl,hb2⟩
 have B:=hide (hb1.trans (hb2.mono hb1.size))
 clear hb1 hb2 K1 K2
 go_wp2
 exact bodyPost_ret (v:=.tuple #[.int .u64 9221120237041090560,.int .u8 0]) (by simp [results,Tryz.results202,go_sem]) rfl ⟨rfl,uH B⟩
theorem tdiv_ii (a b:Nat) (w:World) 
  (C1:∀ w',Calls Tryz.prog 103 #[.int .u64 a] w' fun r w''=>r = .returned (.int .i64 3)∧Below w'.heap.size w' w'')
  (C2:∀ w',Calls Tryz.prog 103 #[.int .u64 b] w' fun r w''=>r = .returned (.int .i64 3)∧Below w'.heap.size w' w'') :
  Calls Tryz.prog 202 #[.int .u64 a,.int .u64 b] w fun r w'=>r = .returned (.tuple #[.int .u64 9221120237041090560,.int .u8 16])∧Below w.heap.size w w':=by
 have K1:=hide C1;have K2:=hide C2
 clear C1 C2
 go_enter Tryz.func202,Tryz.ntmps202
 go_wp2_with fail
 refine (uH K1 _).mono ?_
 rintro e w1 ⟨rfl,hb1⟩
 go_wp2_with fail
 refine (uH K2 _).mono ?_
 rintro e w2 ⟨rfl,hb2⟩
 have B:=hide (hb1.trans (hb2.mono hb1.size))
 clear hb1 hb2 K1 K2
 go_wp2
 exact bodyPost_ret (v:=.tuple #[.int .u64 9221120237041090560,.int .u8 16]) (by simp [results,Tryz.results202,go_sem]) rfl ⟨rfl,uH B⟩
theorem tdiv_zz (a b:Nat) (w:World) 
  (C1:∀ w',Calls Tryz.prog 103 #[.int .u64 a] w' fun r w''=>r = .returned (.int .i64 0)∧Below w'.heap.size w' w'')
  (C2:∀ w',Calls Tryz.prog 103 #[.int .u64 b] w' fun r w''=>r = .returned (.int .i64 0)∧Below w'.heap.size w' w'') :
  Calls Tryz.prog 202 #[.int .u64 a,.int .u64 b] w fun r w'=>r = .returned (.tuple #[.int .u64 9221120237041090560,.int .u8 16])∧Below w.heap.size w w':=by
 have K1:=hide C1;have K2:=hide C2
 clear C1 C2
 go_enter Tryz.func202,Tryz.ntmps202
 go_wp2_with fail
 refine (uH K1 _).mono ?_
 rintro e w1 ⟨rfl,hb1⟩
 go_wp2_with fail
 refine (uH K2 _).mono ?_
 rintro e w2 ⟨rfl,hb2⟩
 have B:=hide (hb1.trans (hb2.mono hb1.size))
 clear hb1 hb2 K1 K2
 go_wp2
 exact bodyPost_ret (v:=.tuple #[.int .u64 9221120237041090560,.int .u8 16]) (by simp [results,Tryz.results202,go_sem]) rfl ⟨rfl,uH B⟩
theorem tdiv_i (a b:Nat) (kb:Int) (o:Nat) (w:World) (h0:(kb == 4) = false) (h1:(kb == 3) = false)
  (C1:∀ w',Calls Tryz.prog 103 #[.int .u64 a] w' fun r w''=>r = .returned (.int .i64 3)∧Below w'.heap.size w' w'')
  (C2:∀ w',Calls Tryz.prog 103 #[.int .u64 b] w' fun r w''=>r = .returned (.int .i64 kb)∧Below w'.heap.size w' w'')
  (C3:∀ w',Calls Tryz.prog 225 #[.int .u64 9218868437227405312,.int .u64 a,.int .u64 b] w' fun r w''=>r = .returned (.int .u64 (o:Nat))∧Below w'.heap.size w' w'') :
  Calls Tryz.prog 202 #[.int .u64 a,.int .u64 b] w fun r w'=>r = .returned (.tuple #[.int .u64 (o:Nat),.int .u8 0])∧Below w.heap.size w w':=by
 have K1:=hide C1;have K2:=hide C2
 clear C1 C2
 go_enter Tryz.func202,Tryz.ntmps202
 go_wp2_with fail
 refine (uH K1 _).mono ?_
 rintro e w1 ⟨rfl,hb1⟩
 go_wp2_with fail
 refine (uH K2 _).mono ?_
 rintro e w2 ⟨rfl,hb2⟩
 have B:=hide (hb1.trans (hb2.mono hb1.size))
 clear hb1 hb2 K1 K2
 have K3:=hide C3
 clear C3
 go_wp2_with fail
 refine (uH K3 _).mono ?_
 rintro e w3 ⟨rfl,hb3⟩
 have B:=hide ((uH B).trans (hb3.mono (uH B).size))
 clear hb3 K3
 go_wp2
 exact bodyPost_ret (v:=.tuple #[.int .u64 (o:Nat),.int .u8 0]) (by simp [results,Tryz.results202,go_sem]) rfl ⟨rfl,uH B⟩
theorem tdiv_z (a b:Nat) (kb:Int) (o:Nat) (w:World) (h0:(kb == 4) = false) (h1:(kb == 0) = false)
  (C1:∀ w',Calls Tryz.prog 103 #[.int .u64 a] w' fun r w''=>r = .returned (.int .i64 0)∧Below w'.heap.size w' w'')
  (C2:∀ w',Calls Tryz.prog 103 #[.int .u64 b] w' fun r w''=>r = .returned (.int .i64 kb)∧Below w'.heap.size w' w'')
  (C3:∀ w',Calls Tryz.prog 225 #[.int .u64 0,.int .u64 a,.int .u64 b] w' fun r w''=>r = .returned (.int .u64 (o:Nat))∧Below w'.heap.size w' w'') :
  Calls Tryz.prog 202 #[.int .u64 a,.int .u64 b] w fun r w'=>r = .returned (.tuple #[.int .u64 (o:Nat),.int .u8 0])∧Below w.heap.size w w':=by
 have K1:=hide C1;have K2:=hide C2
 clear C1 C2
 go_enter Tryz.func202,Tryz.ntmps202
 go_wp2_with fail
 refine (uH K1 _).mono ?_
 rintro e w1 ⟨rfl,hb1⟩
 go_wp2_with fail
 refine (uH K2 _).mono ?_
 rintro e w2 ⟨rfl,hb2⟩
 have B:=hide (hb1.trans (hb2.mono hb1.size))
 clear hb1 hb2 K1 K2
 have K3:=hide C3
 clear C3
 go_wp2_with fail
 refine (uH K3 _).mono ?_
 rintro e w3 ⟨rfl,hb3⟩
 have B:=hide ((uH B).trans (hb3.mono (uH B).size))
 clear hb3 K3
 go_wp2
 exact bodyPost_ret (v:=.tuple #[.int .u64 (o:Nat),.int .u8 0]) (by simp [results,Tryz.results202,go_sem]) rfl ⟨rfl,uH B⟩
theorem tdiv_j (a b:Nat) (ka:Int) (o:Nat) (w:World) (h0:(ka == 4) = false) (h1:(ka == 3) = false) (h2:(ka == 0) = false)
  (C1:∀ w',Calls Tryz.prog 103 #[.int .u64 a] w' fun r w''=>r = .returned (.int .i64 ka)∧Below w'.heap.size w' w'')
  (C2:∀ w',Calls Tryz.prog 103 #[.int .u64 b] w' fun r w''=>r = .returned (.int .i64 3)∧Below w'.heap.size w' w'')
  (C3:∀ w',Calls Tryz.prog 225 #[.int .u64 0,.int .u64 a,.int .u64 b] w' fun r w''=>r = .returned (.int .u64 (o:Nat))∧Below w'.heap.size w' w'') :
  Calls Tryz.prog 202 #[.int .u64 a,.int .u64 b] w fun r w'=>r = .returned (.tuple #[.int .u64 (o:Nat),.int .u8 0])∧Below w.heap.size w w':=by
 have K1:=hide C1;have K2:=hide C2
 clear C1 C2
 go_enter Tryz.func202,Tryz.ntmps202
 go_wp2_with fail
 refine (uH K1 _).mono ?_
 rintro e w1 ⟨rfl,hb1⟩
 go_wp2_with fail
 refine (uH K2 _).mono ?_
 rintro e w2 ⟨rfl,hb2⟩
 have B:=hide (hb1.trans (hb2.mono hb1.size))
 clear hb1 hb2 K1 K2
 have K3:=hide C3
 clear C3
 go_wp2_with fail
 refine (uH K3 _).mono ?_
 rintro e w3 ⟨rfl,hb3⟩
 have B:=hide ((uH B).trans (hb3.mono (uH B).size))
 clear hb3 K3
 go_wp2
 exact bodyPost_ret (v:=.tuple #[.int .u64 (o:Nat),.int .u8 0]) (by simp [results,Tryz.results202,go_sem]) rfl ⟨rfl,uH B⟩
theorem tdiv_y (a b:Nat) (ka:Int) (o:Nat) (w:World) (h0:(ka == 4) = false) (h1:(ka == 3) = false) (h2:(ka == 0) = false)
  (C1:∀ w',Calls Tryz.prog 103 #[.int .u64 a] w' fun r w''=>r = .returned (.int .i64 ka)∧Below w'.heap.size w' w'')
  (C2:∀ w',Calls Tryz.prog 103 #[.int .u64 b] w' fun r w''=>r = .returned (.int .i64 0)∧Below w'.heap.size w' w'')
  (C3:∀ w',Calls Tryz.prog 225 #[.int .u64 9218868437227405312,.int .u64 a,.int .u64 b] w' fun r w''=>r = .returned (.int .u64 (o:Nat))∧Below w'.heap.size w' w'') :
  Calls Tryz.prog 202 #[.int .u64 a,.int .u64 b] w fun r w'=>r = .returned (.tuple #[.int .u64 (o:Nat),.int .u8 8])∧Below w.heap.size w w':=by
 have K1:=hide C1;have K2:=hide C2
 clear C1 C2
 go_enter Tryz.func202,Tryz.ntmps202
 go_wp2_with fail
 refine (uH K1 _).mono ?_
 rintro e w1 ⟨rfl,hb1⟩
 go_wp2_with fail
 refine (uH K2 _).mono ?_
 rintro e w2 ⟨rfl,hb2⟩
 have B:=hide (hb1.trans (hb2.mono hb1.size))
 clear hb1 hb2 K1 K2
 have K3:=hide C3
 clear C3
 go_wp2_with fail
 refine (uH K3 _).mono ?_
 rintro e w3 ⟨rfl,hb3⟩
 have B:=hide ((uH B).trans (hb3.mono (uH B).size))
 clear hb3 K3
 go_wp2
 exact bodyPost_ret (v:=.tuple #[.int .u64 (o:Nat),.int .u8 8]) (by simp [results,Tryz.results202,go_sem]) rfl ⟨rfl,uH B⟩
theorem tdiv_f (a b:Nat) (ka kb:Int) (fl:Int) (o:Nat) (w:World) (h0:(ka == 4) = false) (h1:(ka == 3) = false) (h2:(ka == 0) = false) (h3:(kb == 4) = false) (h4:(kb == 3) = false) (h5:(kb == 0) = false) (hT:Tab w)
  (C1:∀ w',Calls Tryz.prog 103 #[.int .u64 a] w' fun r w''=>r = .returned (.int .i64 ka)∧Below w'.heap.size w' w'')
  (C2:∀ w',Calls Tryz.prog 103 #[.int .u64 b] w' fun r w''=>r = .returned (.int .i64 kb)∧Below w'.heap.size w' w'')
  (C3:∀ w',Tab w'→Calls Tryz.prog 227 #[.int .u64 a,.int .u64 b] w' fun r w''=>r = .returned (.tuple #[.int .u64 (o:Nat),.int .u8 fl])∧Below w'.heap.size w' w'') :
  Calls Tryz.prog 202 #[.int .u64 a,.int .u64 b] w fun r w'=>r = .returned (.tuple #[.int .u64 (o:Nat),.int .u8 fl])∧Below w.heap.size w w':=by
 have K1:=hide C1;have K2:=hide C2
 clear C1 C2
 go_enter Tryz.func202,Tryz.ntmps202
 go_wp2_with fail
 refine (uH K1 _).mono ?_
 rintro e w1 ⟨rfl,hb1⟩
 go_wp2_with fail
 refine (uH K2 _).mono ?_
 rintro e w2 ⟨rfl,hb2⟩
 have B:=hide (hb1.trans (hb2.mono hb1.size))
 clear hb1 hb2 K1 K2
 have K3:=hide C3;have HT:=hide (hT.all (uH B))
 clear C3 hT
 go_wp2_with fail
 refine (uH K3 _ (uH HT)).mono ?_
 rintro e w3 ⟨rfl,hb3⟩
 have B:=hide ((uH B).trans (hb3.mono (uH B).size))
 clear hb3 K3 HT
 go_wp2
 exact bodyPost_ret (v:=.tuple #[.int .u64 (o:Nat),.int .u8 fl]) (by simp [results,Tryz.results202,go_sem]) rfl ⟨rfl,uH B⟩
theorem tdiv_any (a b:Nat) (w:World) (ha:a < 18446744073709551616) (hb:b < 18446744073709551616) (hT:Tab w) :
  Calls Tryz.prog 202 #[.int .u64 a,.int .u64 b] w fun r w'=>r = .returned (.tuple #[.int .u64 (dV a b:Nat),.int .u8 (dF a b)])∧Below w.heap.size w w':=by
 have C1:=fun w'=>kind_any a w' ha
 have C2:=fun w'=>kind_any b w' hb
 have CI:=fun w'=>tsigned_any 9218868437227405312 a b w' ha hb (by decide)
 have CZ:=fun w'=>tsigned_any 0 a b w' ha hb (by decide)
 by_cases a4:fK a = 4
 ·rw [show dV a b = 9221120237041090560 by unfold dV;rw [if_pos (Or.inl a4)],show dF a b = 0 by unfold dF;rw [if_pos (Or.inl a4)]]
  rw [a4] at C1
  exact tdiv_n1 a b _ w C1 C2
 by_cases b4:fK b = 4
 ·rw [show dV a b = 9221120237041090560 by unfold dV;rw [if_pos (Or.inr b4)],show dF a b = 0 by unfold dF;rw [if_pos (Or.inr b4)]]
  rw [b4] at C2
  exact tdiv_n2 a b _ w (by simp [a4]) C1 C2
 have n4:¬ (fK a = 4 ∨ fK b = 4):=by omega
 by_cases hs:fK a = fK b∧(fK a = 3 ∨ fK a = 0)
 ·rw [show dV a b = 9221120237041090560 by unfold dV;rw [if_neg n4,if_pos hs],show dF a b = 16 by unfold dF;rw [if_neg n4,if_pos hs]]
  rcases hs with ⟨h1,h3 | h0⟩
  ·rw [h3] at C1
   rw [← h1,h3] at C2
   exact tdiv_ii a b w C1 C2
  ·rw [h0] at C1
   rw [← h1,h0] at C2
   exact tdiv_zz a b w C1 C2
 by_cases a3:fK a = 3
 ·rw [show dV a b = wrd (fS a ^^ fS b) 9218868437227405312 by unfold dV;rw [if_neg n4,if_neg hs,if_pos a3],show dF a b = 0 by unfold dF;rw [if_neg n4,if_neg hs,if_pos a3]]
  rw [a3] at C1
  exact tdiv_i a b _ _ w (by simp [b4]) (by simp;omega) C1 C2 CI
 by_cases h3:fK b = 3 ∨ fK a = 0
 ·rw [show dV a b = wrd (fS a ^^ fS b) 0 by unfold dV;rw [if_neg n4,if_neg hs,if_neg a3,if_pos h3],show dF a b = 0 by unfold dF;rw [if_neg n4,if_neg hs,if_neg a3,if_pos h3]]
  by_cases a0:fK a = 0
  ·rw [a0] at C1
   exact tdiv_z a b _ _ w (by simp [b4]) (by simp;omega) C1 C2 CZ
  ·have b3:fK b = 3:=by omega
   rw [b3] at C2
   exact tdiv_j a b _ _ w (by simp [a4]) (by simp [a3]) (by simp [a0]) C1 C2 CZ
 by_cases b0:fK b = 0
 ·rw [show dV a b = wrd (fS a ^^ fS b) 9218868437227405312 by unfold dV;rw [if_neg n4,if_neg hs,if_neg a3,if_neg h3,if_pos b0],show dF a b = 8 by unfold dF;rw [if_neg n4,if_neg hs,if_neg a3,if_neg h3,if_pos b0]]
  rw [b0] at C2
  exact tdiv_y a b _ _ w (by simp [a4]) (by simp [a3]) (by simp;omega) C1 C2 CI
 ·exact tdiv_f a b _ _ _ _ w (by simp [a4]) (by simp [a3]) (by simp;omega) (by simp [b4]) (by simp;omega) (by simp [b0]) hT C1 C2 (fun w' t=>divFinite_any a b w' ha hb (fin_of a a3 a4) (fin_of b (by omega) b4) (by omega) b0 t)
end Go.Proofs.YtlnphkioddknfaaGreatDoor
namespace Go.Proofs.YtlnphkioddknfaaGreatDoor
open Go.RowKit
theorem fmul_run (t:TypeId) (x y:Nat) (w:World):(binOp .mul t (.float .f64 x) (.float .f64 y)).run Tryz.prog w = .ok (.float .f64 (fres (Ieee.double.mul x y) x y w)) (fwld (Ieee.double.mul x y) w):=by
 have hf:FloatKind.f64.format = Ieee.double:=rfl
 cases h:Ieee.double.mul x y with
 | some r=>exact run_float_arith w .mul t .f64 x y r (by unfold floatBits;rw [hf];exact h)
 | none =>
  simp only [binOp,Op.floatArith,hf,h]
  rfl
theorem fdiv_run (t:TypeId) (x y:Nat) (w:World):(binOp .quo t (.float .f64 x) (.float .f64 y)).run Tryz.prog w = .ok (.float .f64 (fres (Ieee.double.div x y) x y w)) (fwld (Ieee.double.div x y) w):=by
 have hf:FloatKind.f64.format = Ieee.double:=rfl
 cases h:Ieee.double.div x y with
 | some r=>exact run_float_arith w .quo t .f64 x y r (by unfold floatBits;rw [hf];exact h)
 | none =>
  simp only [binOp,Op.floatArith,hf,h]
  rfl
theorem wrd_kind (n:Bool) (r:Nat) (h:r≤9218868437227405312):fK (wrd n r) ≠ 4:=fun h4=>by
 have:=(fK_rungs _).1.1 h4
 have e:fR (wrd n r) = r:=by unfold fR;exact (wrd_parts n r (by omega)).2
 omega
theorem mV_kind (a b:Nat) (h:mN a b = false):fK (mV a b) ≠ 4:=by
 have h':=of_decide_eq_false h
 have n4:¬ (fK a = 4 ∨ fK b = 4):=fun e=>h' (Or.inl e)
 unfold mV
 rw [if_neg n4]
 split
 ·rename_i h3
  rw [if_neg (fun h0=>h' (Or.inr ⟨h3,h0⟩))]
  exact wrd_kind _ _ (by decide)
 ·exact wrd_kind _ _ (rnd_le _ _)
theorem dV_kind (a b:Nat) (h:dN a b = false):fK (dV a b) ≠ 4:=by
 have h':=of_decide_eq_false h
 have n4:¬ (fK a = 4 ∨ fK b = 4):=fun e=>h' (Or.inl e)
 have nn:¬ (fK a = fK b∧(fK a = 3 ∨ fK a = 0)):=fun e=>h' (Or.inr e)
 unfold dV
 rw [if_neg n4,if_neg nn]
 repeat' split
 ·exact wrd_kind _ _ (by decide)
 ·exact wrd_kind _ _ (by decide)
 ·exact wrd_kind _ _ (by decide)
 ·exact wrd_kind _ _ (rnd_le _ _)
theorem canon_of (o:Option Nat) (v x y:Nat) (w w':World) (hv:v < 18446744073709551616) (h1:o = none→v = 9221120237041090560) (h2:∀ r,o = some r→r = v∧fK v ≠ 4) :
  Calls Tryz.prog 129 #[.int .u64 (fres o x y w:Nat)] w' fun r w''=>r = .returned (.int .u64 (v:Nat))∧w' = w'':=by
 cases o with
 | none =>
  rw [h1 rfl]
  obtain ⟨h3,h4⟩:=fres_none x y w
  have:=canon_any _ w' h3
  rw [if_pos h4] at this
  exact this
 | some r =>
  obtain ⟨rfl,h4⟩:=h2 r rfl
  have:=canon_any r w' hv
  rw [if_neg h4] at this
  exact this
theorem canon_mul (a b:Nat) (w w':World) (ha:a < 18446744073709551616) (hb:b < 18446744073709551616) :
  Calls Tryz.prog 129 #[.int .u64 (fres (Ieee.double.mul a b) a b w:Nat)] w' fun r w''=>r = .returned (.int .u64 (mV a b:Nat))∧w' = w'':=by
 refine canon_of _ (mV a b) a b w w' (mV_lt a b) (fun h=>?_) (fun r h=>?_)
 ·cases e:mN a b with
  | true=>exact (fmul_none a b ha hb e).2
  | false=>rw [fmul_some a b ha hb e] at h;cases h
 ·cases e:mN a b with
  | true=>rw [(fmul_none a b ha hb e).1] at h;cases h
  | false =>
   rw [fmul_some a b ha hb e] at h
   exact ⟨(Option.some.inj h).symm,mV_kind a b e⟩
theorem canon_div (a b:Nat) (w w':World) (ha:a < 18446744073709551616) (hb:b < 18446744073709551616) :
  Calls Tryz.prog 129 #[.int .u64 (fres (Ieee.double.div a b) a b w:Nat)] w' fun r w''=>r = .returned (.int .u64 (dV a b:Nat))∧w' = w'':=by
 refine canon_of _ (dV a b) a b w w' (dV_lt a b) (fun h=>?_) (fun r h=>?_)
 ·cases e:dN a b with
  | true=>exact (fdiv_none a b ha hb e).2
  | false=>rw [fdiv_some a b ha hb e] at h;cases h
 ·cases e:dN a b with
  | true=>rw [(fdiv_none a b ha hb e).1] at h;cases h
  | false =>
   rw [fdiv_some a b ha hb e] at h
   exact ⟨(Option.some.inj h).symm,dV_kind a b e⟩
end Go.Proofs.YtlnphkioddknfaaGreatDoor
namespace Go.Proofs.YtlnphkioddknfaaGreatDoor
open Go.RowKit
def lV (a:Nat) (n:Int):Nat:=if fK a = 4 then a else xV a n
end Go.Proofs.YtlnphkioddknfaaGreatDoor
namespace Go.Proofs.YtlnphkioddknfaaGreatDoor
open Go.RowKit
def rest7 (N:Nat):Nat:=N - isq N * isq N
theorem next7 (N p:Nat) (hp:p < 4) :
  (4 * rest7 N+p < 4 * isq N+1→isq (4 * N+p) = 2 * isq N∧rest7 (4 * N+p) = 4 * rest7 N+p) ∧
  (¬ 4 * rest7 N+p < 4 * isq N+1→isq (4 * N+p) = 2 * isq N+1∧rest7 (4 * N+p) = 4 * rest7 N+p - (4 * isq N+1)):=by
 obtain ⟨g1,g2⟩:=isq_spec N
 have s1:=sq_succ (isq N)
 have s2:=sq_succ (2 * isq N)
 have s3:=sq_succ (2 * isq N+1)
 have q4:2 * isq N * (2 * isq N) = 4 * (isq N * isq N):=by rw [show (4:Nat) = 2 * 2 by decide];ac_rfl
 unfold rest7
 refine ⟨fun h=>?_,fun h=>?_⟩
 ·have e:isq (4 * N+p) = 2 * isq N:=isq_unique (by omega) (by omega)
  refine ⟨e,?_⟩
  rw [e]
  omega
 ·have e:isq (4 * N+p) = 2 * isq N+1:=isq_unique (by omega) (by omega)
  refine ⟨e,?_⟩
  rw [e]
  omega
theorem rest7_le (N:Nat):rest7 N≤2 * isq N:=by
 obtain ⟨g1,g2⟩:=isq_spec N
 have s1:=sq_succ (isq N)
 unfold rest7
 omega
theorem rest7_zero (N:Nat):rest7 N = 0 ↔ isq N * isq N = N:=by
 obtain ⟨g1,g2⟩:=isq_spec N
 unfold rest7
 omega
theorem isq_lt {N k:Nat} (h:N < k * k):isq N < k:=by
 obtain ⟨g1,g2⟩:=isq_spec N
 exact sq_lt_iff.1 (by omega)
def top7 (n i:Nat):Nat:=n / 4 ^ (32 - i)
theorem top7_zero (n:Nat) (h:n < 18446744073709551616):top7 n 0 = 0:=by
 unfold top7
 rw [show (4:Nat) ^ (32 - 0) = 18446744073709551616 by decide]
 omega
theorem top7_end (n:Nat):top7 n 32 = n:=by
 unfold top7
 simp
theorem top7_succ (n i:Nat) (hi:i < 32):top7 n (i+1) = 4 * top7 n i+n / 2 ^ (2 * (31 - i)) % 4:=by
 unfold top7
 have e:(4:Nat) ^ (32 - i) = 4 ^ (32 - (i+1)) * 4:=by rw [← Nat.pow_succ];congr 1;omega
 have e2:(2:Nat) ^ (2 * (31 - i)) = 4 ^ (32 - (i+1)):=by rw [Nat.pow_mul,show 32 - (i+1) = 31 - i by omega]
 rw [e,e2,← Nat.div_div_eq_div_mul]
 omega
theorem top7_lt (n i:Nat) (h:n < 18446744073709551616):top7 n i < 18446744073709551616:=by
 unfold top7
 exact Nat.lt_of_le_of_lt (Nat.div_le_self _ _) h
theorem isq_top7 (n i:Nat) (h:n < 18446744073709551616):isq (top7 n i) < 4294967296:=isq_lt (Nat.lt_of_lt_of_le (top7_lt n i h) (by decide))
theorem isq_low7 (n i:Nat) (h:n < 18446744073709551616) (hi:i≤22):isq (n * 4 ^ i) < 18014398509481984:=by
 refine isq_lt ?_
 have h1:(4:Nat) ^ i≤4 ^ 22:=Nat.pow_le_pow_right (by decide) hi
 rw [show (4:Nat) ^ 22 = 17592186044416 by decide] at h1
 have h2:n * 4 ^ i≤n * 17592186044416:=Nat.mul_le_mul_left _ h1
 omega
theorem low7_succ (n i:Nat):n * 4 ^ (i+1) = 4 * (n * 4 ^ i)+0:=by rw [Nat.pow_succ];ac_rfl
def nS (b:Nat):Nat:=(fD b).natAbs * 2 ^ (64 - bl (fD b).natAbs - ((dT b) % 2).toNat)
def nT (b:Nat):Int:=dT b+(dT b) % 2
theorem nS_facts (b:Nat) (hb:b < 18446744073709551616) (hf:fFin b = true) (h0:fK b ≠ 0) :
  nS b < 18446744073709551616∧4611686018427387904≤nS b:=by
 obtain ⟨x1,x2,x3,x4,x5,x6,x7,x8⟩:=dS_facts b hb hf h0
 obtain ⟨b1,b2,b3⟩:=bl_spec (fD b).natAbs (by omega)
 unfold nS
 have hp:=Nat.two_pow_pos (64 - bl (fD b).natAbs - ((dT b) % 2).toNat)
 have k1:=(Nat.mul_lt_mul_right hp).2 b3
 have k2:=Nat.mul_le_mul_right (2 ^ (64 - bl (fD b).natAbs - ((dT b) % 2).toNat)) b2
 rw [← Nat.pow_add] at k1 k2
 have k3:2 ^ (bl (fD b).natAbs+(64 - bl (fD b).natAbs - ((dT b) % 2).toNat))≤2 ^ 64:=Nat.pow_le_pow_right (by decide) (by omega)
 have k4:2 ^ 62≤2 ^ (bl (fD b).natAbs - 1+(64 - bl (fD b).natAbs - ((dT b) % 2).toNat)):=Nat.pow_le_pow_right (by decide) (by omega)
 rw [show (2:Nat) ^ 64 = 18446744073709551616 by decide] at k3
 rw [show (2:Nat) ^ 62 = 4611686018427387904 by decide] at k4
 exact ⟨Nat.lt_of_lt_of_le k1 k3,Nat.le_trans k4 k2⟩
theorem nS_root (a:Nat) (ha:a < 18446744073709551616) (fa:fFin a = true) (a0:fK a ≠ 0) :
  rnd (rS (nS a * 4 ^ 22)) (nT a / 2 - 55) = tV a∧rflag (oM (rS (nS a * 4 ^ 22):Nat)).natAbs (oE (rS (nS a * 4 ^ 22):Nat) (nT a / 2 - 55)) = tF a:=by
 obtain ⟨α,x1,x2,x3,x4⟩:=odd_mag a ha fa a0
 obtain ⟨y1,y2,y3,y4,y5,y6,y7,y8⟩:=dS_facts a ha fa a0
 obtain ⟨n1,n2⟩:=nS_facts a ha fa a0
 have hN:nS a * 4 ^ 22 = (fD a).natAbs * 2 ^ (64 - bl (fD a).natAbs - ((dT a) % 2).toNat+44):=by
  unfold nS
  rw [Nat.pow_add,Nat.mul_assoc]
 have hbig:9007199254740992≤isq (nS a * 4 ^ 22):=by
  refine big_sq ?_
  rw [show (2:Nat) ^ 106 = 4611686018427387904 * 4 ^ 22 by decide]
  exact Nat.mul_le_mul_right _ n2
 rw [hN] at hbig ⊢
 have hd:dT a = (bl (fD a).natAbs:Int)+fX a:=rfl
 have hn:nT a = dT a+dT a % 2:=rfl
 have:=root_any a (fD a).natAbs α (64 - bl (fD a).natAbs - ((dT a) % 2).toNat+44) (nT a / 2 - 54) a0 x2.symm (by omega) hbig
 rwa [show nT a / 2 - 54 - 1 = nT a / 2 - 55 by omega] at this
theorem rS_54 (n:Nat) (h:n < 18446744073709551616):rS (n * 4 ^ 22) < 36028797018963968:=by
 have:=isq_low7 n 22 h (by decide)
 unfold rS
 split <;> omega
end Go.Proofs.YtlnphkioddknfaaGreatDoor
