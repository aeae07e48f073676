/- Part 17 of the texts. -/
import Derived.Test.YtdhmglmccafbnaaGreatDoorPartv16
import Derived.Test.YtdhmglmccafbnaaGreatDoorPartv12
import Derived.Test.YtdhmglmccafbnaaGreatDoorPartv15
import Derived.Test.YtdhmglmccafbnaaGreatDoorPartv07
import Derived.Test.YtdhmglmccafbnaaGreatDoorPartv05
import Derived.Test.YtdhmglmccafbnaaGreatDoorPartv08
import Derived.Test.YtdhmglmccafbnaaGreatDoorPartv13
import Derived.Deep.Cut
import Derived.BigQuiet
import Derived.Test.YtdhmglmccafbnaaGreatDoorPartv14
import Derived.Test.YtdhmglmccafbnaaGreatDoorPartv09
import Derived.Deep.RegionHeld3
import Derived.Test.YtdhmglmccafbnaaGreatDoorPartv06
import Derived.Laws.BitsAllLaws
set_option maxHeartbeats 4000000
set_option maxRecDepth 20000
namespace Go.Proofs.YtdhmglmccafbnaaGreatDoor
open Go.RowKit
theorem IsDy.limbs {w:World} {n:Bool} {a:Option Addr} {l c:Nat} {X m Y:Int} (h:IsDy w (.agg #[.bool n,.slice a l c,.int .i64 X]) m Y) (hm:m.natAbs < TOP) :
  ∃ L,l = L.length∧LimbsAt w a c L∧rightB false L = true∧val L = m.natAbs∧L.length≤512:=by
 obtain ⟨n',a',c',L,e1,h1,h2,h3,h4,h5⟩:=h.right hm
 simp only [Value.agg.injEq,Array.mk.injEq,List.cons.injEq,Value.bool.injEq,Value.slice.injEq,and_true] at e1
 obtain ⟨rfl,⟨rfl,e2,rfl⟩,_⟩:=e1
 have hr:rightB false L = true:=by
  simp only [rightB,Bool.and_eq_true,decide_eq_true_eq,Bool.not_eq_true',Bool.and_eq_false_iff,decide_eq_false_iff_not,Bool.or_eq_true] at h2 ⊢
  exact ⟨⟨h2.1.1,Or.inr trivial⟩,h2.2⟩
 exact ⟨L,e2,h1,hr,by rw [← h3,natAbs_sval],h4⟩
theorem small6 {B:Nat} {w:World} {v:Value} {x:Int} (hv:IsNum B w v x) (h0:-9223372036854775808≤x) (h1:x≤9223372036854775807) :
  Calls Tryz.prog 299 #[v] w fun e w'=>e = .returned (.tuple #[.int .i64 x,.int .i64 0])∧Below w.heap.size w w':=by
 obtain ⟨na,ao,ca,A,rfl,a1,a2,a3,a4⟩:=hv.right (small_TOP _ (by omega))
 have:=small_any na ao ca A w a1 (by omega)
 have hf:fits64 x = true:=by unfold fits64;rw [decide_eq_true (by omega)]
 rwa [show smV na A = x by unfold smV;rw [a2,a3,hf];rfl,show smE na A = 0 by unfold smE;rw [a2,a3,hf];rfl] at this
theorem sizeOf_any (b:Nat) (w:World) (hb:b < 18446744073709551616) (hf:fFin b = true) (h0:fK b ≠ 0) (hT:Tab w) :
  Calls Tryz.prog 279 #[.int .u64 b] w fun r w'=>r = .returned (.tuple #[.int .i64 (dS b:Nat),.int .i64 (dT b)])∧Below w.heap.size w w':=by
 obtain ⟨x1,x2,x3,x4,x5,x6,x7,x8⟩:=dS_facts b hb hf h0
 have hm:(fD b).natAbs < TOP:=small_TOP _ (by omega)
 have hS:(dS b:Int) = ((fD b).natAbs * 2 ^ (53 - (bl (fD b).natAbs:Int)).toNat:Nat):=by
  unfold dS
  rw [show (53 - (bl (fD b).natAbs:Int)).toNat = 53 - bl (fD b).natAbs by omega]
 refine sizeOf_ways b (fD b) (fX b) (dS b:Nat) (bl (fD b).natAbs:Nat) (dT b) w (by omega) (fun w' h=>value_some b w' hb hf (hT.all h)) ?_ ?_ ?_ ?_
 ·intro w' n a l c h
  obtain ⟨L,rfl,h1,h2,h3,h4⟩:=h.limbs hm
  have:=len_any false a c L w' h1 (by omega)
  rwa [lenL_bl h1.2.1 h2,h3] at this
 ·intro w' n a l c h
  obtain ⟨L,rfl,h1,h2,h3,h4⟩:=h.limbs hm
  have:=shift_any false a c L (53 - (bl (fD b).natAbs:Int)) w' h1 (by omega) (by omega)
  have hV:shV false L (53 - (bl (fD b).natAbs:Int)) = (dS b:Int):=by
   unfold shV
   rw [if_pos (by omega),h3,hS];rfl
  have hok:shOk false L (53 - (bl (fD b).natAbs:Int)) = true:=by unfold shOk;rw [h2,decide_eq_true (by omega)];rfl
  have hz:((dS b:Nat):Int).natAbs < TOP:=small_TOP _ (by omega)
  rwa [show shE false L (53 - (bl (fD b).natAbs:Int)) = 0 by unfold shE;rw [hok,if_pos rfl,hV,errOf_small _ hz],show shN false L (53 - (bl (fD b).natAbs:Int)) = (dS b:Nat) by unfold shN;rw [hok,if_pos rfl,hV,numOf_small _ hz]] at this
 ·intro B w' v h
  exact small6 h (by omega) (by omega)
 ·intro w' n a l c h
  obtain ⟨L,rfl,h1,h2,h3,h4⟩:=h.limbs hm
  have:=dtop_any false a c L (fX b) w' h1 (by omega)
  rwa [lenL_bl h1.2.1 h2,h3,wrap_small _ (by omega)] at this
theorem divFinite_n (a b:Nat) (x y tx ty q E M X fl:Int) (w:World) (r o:Nat) (ht:-3000≤tx∧tx≤3000∧-3000≤ty∧ty≤3000) (hE:E = tx - ty - 55)
  (C1:∀ w',Below w.heap.size w w'→Calls Tryz.prog 279 #[.int .u64 a] w' fun r w''=>r = .returned (.tuple #[.int .i64 x,.int .i64 tx])∧Below w'.heap.size w' w'')
  (C2:∀ w',Below w.heap.size w w'→Calls Tryz.prog 279 #[.int .u64 b] w' fun r w''=>r = .returned (.tuple #[.int .i64 y,.int .i64 ty])∧Below w'.heap.size w' w'')
  (C3:∀ w',Calls Tryz.prog 280 #[.int .i64 x,.int .i64 y] w' fun r w''=>r = .returned (.int .i64 q)∧w' = w'')
  (C4:∀ w',Calls Tryz.prog 237 #[.int .i64 q] w' fun r w''=>∃ v,r = .returned v∧IsNum w'.heap.size w'' v q∧Below w'.heap.size w' w'')
  (C5:∀ B w' v,Below w.heap.size w w'→IsNum B w' v q→Calls Tryz.prog 236 #[v,.int .i64 E] w' fun r w''=>DyR w'' r 0 M X∧Below w'.heap.size w' w'')
  (C6:∀ w' v,Below w.heap.size w w'→IsDy w' v M X→Calls Tryz.prog 251 #[v] w' fun s w''=>s = .returned (.tuple #[.int .u64 (r:Nat),.int .u8 fl,.int .i64 0])∧Below w'.heap.size w' w'')
  (C7:∀ w',Calls Tryz.prog 253 #[.int .u64 (r:Nat),.int .u64 a,.int .u64 b] w' fun s w''=>s = .returned (.int .u64 (o:Nat))∧Below w'.heap.size w' w'') :
  Calls Tryz.prog 255 #[.int .u64 a,.int .u64 b] w fun s w'=>s = .returned (.tuple #[.int .u64 (o:Nat),.int .u8 fl])∧Below w.heap.size w w':=by
 have K1:=hide C1;have K2:=hide C2;have K3:=hide C3;have K4:=hide C4;have K5:=hide C5;have K6:=hide C6;have K7:=hide C7
 clear C1 C2 C3 C4 C5 C6 C7
 have e1:=wrap_small (tx - ty) (by omega)
 have e2:=wrap_small (tx - ty - 55) (by omega)
 rw [← hE] at e2
 go_enter Tryz.func255,Tryz.ntmps255
 go_wp2_with fail
 refine (uH K1 _ (Below.refl _ _)).mono ?_
 rintro e w1 ⟨rfl,hb1⟩
 have B1:=hide hb1
 clear hb1 K1
 go_wp2_with fail
 refine (uH K2 _ (uH B1)).mono ?_
 rintro e w2 ⟨rfl,hb1⟩
 have B2:=hide ((uH B1).trans (hb1.mono (uH B1).size))
 clear hb1 K2 B1
 go_wp2_with fail
 refine (uH K3 _).mono ?_
 rintro e wk ⟨rfl,rfl⟩
 go_wp2_with fail
 refine (uH K4 _).mono ?_
 rintro e w3 ⟨v,rfl,⟨n3,a3,c3,L3,rfl,i3⟩,hb1⟩
 have B3:=hide ((uH B2).trans (hb1.mono (uH B2).size))
 have I3:=hide (show IsNum w2.heap.size w3 (.agg #[.bool n3,.slice a3 L3.length c3]) q from ⟨n3,a3,c3,L3,rfl,i3⟩)
 clear hb1 K3 K4 B2 i3
 generalize L3.length = l3 at *
 subst hE
 go_wp2_with fail
 refine (uH K5 _ _ _ (uH B3) (uH I3)).mono ?_
 rintro e w4 ⟨⟨v,rfl,hv⟩,hb1⟩
 obtain ⟨n1,a1,c1,L1,rfl,i1⟩:=hv
 have hb1a:Below w4.heap.size w4 (w4.alloc (.cells #[.bool n1,.slice a1 L1.length c1,.int .i64 X] 41)):=(Below.refl _ _).alloc (Nat.le_refl _) _
 have HX:=hide ((show IsDy w4 (.agg #[.bool n1,.slice a1 L1.length c1,.int .i64 X]) M X from ⟨n1,a1,c1,L1,rfl,i1⟩).below hb1a)
 have B4:=hide ((uH B3).trans ((hb1.trans (hb1a.mono hb1.size)).mono (uH B3).size))
 have x3:=Box3.new w4 (.bool n1) (.slice a1 L1.length c1) (.int .i64 X)
 have y0:=x3.c0;have y1:=x3.c1;have y2:=x3.c2
 clear i1 hb1 hb1a K5 B3 x3 I3
 generalize L1.length = l1 at *
 go_wp2_with fail
 refine (uH K6 _ _ (uH B4) (uH HX)).mono ?_
 rintro e w5 ⟨rfl,hb1⟩
 have B5:=hide ((uH B4).trans (hb1.mono (uH B4).size))
 clear hb1 K6 B4 y0 y1 y2 HX
 go_wp2_with fail
 refine (uH K7 _).mono ?_
 rintro e w6 ⟨rfl,hb1⟩
 have B6:=hide ((uH B5).trans (hb1.mono (uH B5).size))
 clear hb1 K7 B5
 go_wp2
 exact bodyPost_ret (v:=.tuple #[.int .u64 o,.int .u8 fl]) (by simp [results,Tryz.results255,go_sem]) rfl ⟨rfl,uH B6⟩
theorem lt57 {S:Nat} (h:S < 144115188075855872):S < 2 ^ 57:=by
 have:(2:Nat) ^ 57 = 144115188075855872:=by decide
 omega
theorem divFinite_of (a b S sx sy r:Nat) (tx ty fl:Int) (w:World) (ha:a < 18446744073709551616) (hb:b < 18446744073709551616) (hr:r≤9218868437227405312)
  (ht:-1100≤tx∧tx≤1100∧-1100≤ty∧ty≤1100) (s1:S ≠ 0) (s2:S < 144115188075855872)
  (q1:rnd S (tx - ty - 55) = r) (q2:rflag (oM (S:Nat)).natAbs (oE (S:Nat) (tx - ty - 55)) = fl) (hT:Tab w)
  (C1:∀ w',Below w.heap.size w w'→Calls Tryz.prog 279 #[.int .u64 a] w' fun r w''=>r = .returned (.tuple #[.int .i64 (sx:Nat),.int .i64 tx])∧Below w'.heap.size w' w'')
  (C2:∀ w',Below w.heap.size w w'→Calls Tryz.prog 279 #[.int .u64 b] w' fun r w''=>r = .returned (.tuple #[.int .i64 (sy:Nat),.int .i64 ty])∧Below w'.heap.size w' w'')
  (C3:∀ w',Calls Tryz.prog 280 #[.int .i64 (sx:Nat),.int .i64 (sy:Nat)] w' fun r w''=>r = .returned (.int .i64 (S:Nat))∧w' = w'') :
  Calls Tryz.prog 255 #[.int .u64 a,.int .u64 b] w fun s w'=>s = .returned (.tuple #[.int .u64 (wrd (fS a ^^ fS b) r:Nat),.int .u8 fl])∧Below w.heap.size w w':=by
 have hz:((S:Nat):Int).natAbs < TOP:=small_TOP _ (by omega)
 have hz0:((S:Nat):Int) ≠ 0:=by omega
 have htz:tz ((S:Nat):Int).natAbs < 57:=tz_lt _ 57 (by omega) (by rw [Int.natAbs_natCast];exact lt57 s2)
 obtain ⟨E,hE⟩:∃ E,E = tx - ty - 55:=⟨_,rfl⟩
 rw [← hE] at q1 q2
 have hE2:-2300≤E∧E≤2300:=by omega
 have hok:dOk (S:Nat) E = true:=by
  unfold dOk
  rw [decide_eq_true (show -32768≤E∧E≤32768 by omega),decide_eq_true (show -16384≤E+(tz ((S:Nat):Int).natAbs:Int)∧E+(tz ((S:Nat):Int).natAbs:Int)≤16384 by omega),Bool.or_true]
  rfl
 have hRt:dRt (oM (S:Nat)) (oE (S:Nat) E) = true:=by
  unfold dRt
  rw [if_neg (oM_ne _ hz0).1,oE_ne _ _ hz0,decide_eq_true (oM_ne _ hz0).2,decide_eq_true (by omega)]
  rfl
 have hle:(oM (S:Nat)).natAbs < TOP:=Nat.lt_of_le_of_lt (oM_le _) hz
 have C6:∀ w' v,Below w.heap.size w w'→IsDy w' v (oM (S:Nat)) (oE (S:Nat) E)→_:=fun w' v h hv=>round_dy hv hle hRt (hT.all h)
 rw [(rnd_odd ((S:Nat):Int) E).1,oM_sign,decide_eq_false (show ¬ ((S:Nat):Int) < 0 by omega),wrd_false,Int.natAbs_natCast,q1,q2] at C6
 refine divFinite_n a b (sx:Nat) (sy:Nat) tx ty (S:Nat) E _ _ _ w _ _ (by omega) hE C1 C2 C3
  (fun w'=>of_any _ w' (by omega) (by omega)) (fun B w' v h hv=>?_) C6 (fun w'=>tsigned_any r a b w' ha hb (by omega))
 have:=make_num E hv hz (by omega) (hT.all h)
 unfold dErr dM dX at this
 rw [hok] at this
 exact this.mono fun r w'' ⟨u,g1,g2,g3⟩=>⟨⟨u,g1,g2⟩,g3⟩
theorem pS_def (a b:Nat):stk (dS a * 2 ^ 54) (dS b) = pS a b:=by unfold pS;rfl
theorem dT_in (b:Nat) (hb:b < 18446744073709551616) (hf:fFin b = true) (h0:fK b ≠ 0):-1100≤dT b∧dT b≤1100:=by
 obtain ⟨x1,x2,x3,x4,x5,x6,x7,x8⟩:=dS_facts b hb hf h0
 unfold dT
 omega
theorem divFinite_any (a b:Nat) (w:World) (ha:a < 18446744073709551616) (hb:b < 18446744073709551616) (fa:fFin a = true) (fb:fFin b = true) (a0:fK a ≠ 0) (b0:fK b ≠ 0) (hT:Tab w) :
  Calls Tryz.prog 255 #[.int .u64 a,.int .u64 b] w fun r w'=>r = .returned (.tuple #[.int .u64 (dV a b:Nat),.int .u8 (dF a b)])∧Below w.heap.size w w':=by
 obtain ⟨y1,y2,y3,y4,y5,y6,y7,y8⟩:=dS_facts b hb fb b0
 obtain ⟨s1,s2,s3⟩:=pS_facts a b ha hb fa fb a0 b0
 obtain ⟨q1,q2⟩:=quo_prog a b ha hb fa fb a0 b0
 have hr:qV a b≤9218868437227405312:=rnd_le _ _
 have C3:=fun w'=>quotient_any (dS a) (dS b) w' y4 s3
 have t1:=dT_in a ha fa a0
 have t2:=dT_in b hb fb b0
 have e1:=(dV_fin a b fa fb a0 b0).1
 have e2:=(dV_fin a b fa fb a0 b0).2
 rw [pS_def] at C3
 rw [e1,e2]
 exact divFinite_of a b (pS a b) (dS a) (dS b) (qV a b) (dT a) (dT b) (qF a b) w ha hb hr ⟨t1.1,t1.2,t2.1,t2.2⟩ s1 s2 q1 q2 hT (fun w' h=>sizeOf_any a w' ha fa a0 (hT.all h)) (fun w' h=>sizeOf_any b w' hb fb b0 (hT.all h)) C3
end Go.Proofs.YtdhmglmccafbnaaGreatDoor
namespace Go.Proofs.YtdhmglmccafbnaaGreatDoor
open Go.RowKit
theorem tdiv_n1 (a b:Nat) (kb:Int) (w:World) 
  (C1:∀ w',Calls Tryz.prog 113 #[.int .u64 a] w' fun r w''=>r = .returned (.int .i64 4)∧Below w'.heap.size w' w'')
  (C2:∀ w',Calls Tryz.prog 113 #[.int .u64 b] w' fun r w''=>r = .returned (.int .i64 kb)∧Below w'.heap.size w' w'') :
  Calls Tryz.prog 224 #[.int .u64 a,.int .u64 b] w fun r w'=>r = .returned (.tuple #[.int .u64 9221120237041090560,.int .u8 0])∧Below w.heap.size w w':=by
 have K1:=hide C1;have K2:=hide C2
 clear C1 C2
 go_enter Tryz.func224,Tryz.ntmps224
 go_wp2_with fail
 refine (uH K1 _).mono ?_
 rintro e w1 ⟨rfl,hb1⟩
 go_wp2_with fail
 refine (uH K2 _).mono ?_
 rintro e w2 ⟨rfl,hb2⟩
 have B:=hide (hb1.trans (hb2.mono hb1.size))
 clear hb1 hb2 K1 K2
 go_wp2
 exact bodyPost_ret (v:=.tuple #[.int .u64 9221120237041090560,.int .u8 0]) (by simp [results,Tryz.results224,go_sem]) rfl ⟨rfl,uH B⟩
theorem tdiv_n2 (a b:Nat) (ka:Int) (w:World) (h0:(ka == 4) = false)
  (C1:∀ w',Calls Tryz.prog 113 #[.int .u64 a] w' fun r w''=>r = .returned (.int .i64 ka)∧Below w'.heap.size w' w'')
  (C2:∀ w',Calls Tryz.prog 113 #[.int .u64 b] w' fun r w''=>r = .returned (.int .i64 4)∧Below w'.heap.size w' w'') :
  Calls Tryz.prog 224 #[.int .u64 a,.int .u64 b] w fun r w'=>r = .returned (.tuple #[.int .u64 9221120237041090560,.int .u8 0])∧Below w.heap.size w w':=by
 have K1:=hide C1;have K2:=hide C2
 clear C1 C2
 go_enter Tryz.func224,Tryz.ntmps224
 go_wp2_with fail
 refine (uH K1 _).mono ?_
 rintro e w1 ⟨rfl,hb1⟩
 go_wp2_with fail
 refine (uH K2 _).mono ?_
 rintro e w2 ⟨rfl,hb2⟩
 have B:=hide (hb1.trans (hb2.mono hb1.size))
 clear hb1 hb2 K1 K2
 go_wp2
 exact bodyPost_ret (v:=.tuple #[.int .u64 9221120237041090560,.int .u8 0]) (by simp [results,Tryz.results224,go_sem]) rfl ⟨rfl,uH B⟩
theorem tdiv_ii (a b:Nat) (w:World) 
  (C1:∀ w',Calls Tryz.prog 113 #[.int .u64 a] w' fun r w''=>r = .returned (.int .i64 3)∧Below w'.heap.size w' w'')
  (C2:∀ w',Calls Tryz.prog 113 #[.int .u64 b] w' fun r w''=>r = .returned (.int .i64 3)∧Below w'.heap.size w' w'') :
  Calls Tryz.prog 224 #[.int .u64 a,.int .u64 b] w fun r w'=>r = .returned (.tuple #[.int .u64 9221120237041090560,.int .u8 16])∧Below w.heap.size w w':=by
 have K1:=hide C1;have K2:=hide C2
 clear C1 C2
 go_enter Tryz.func224,Tryz.ntmps224
 go_wp2_with fail
 refine (uH K1 _).mono ?_
 rintro e w1 ⟨rfl,hb1⟩
 go_wp2_with fail
 refine (uH K2 _).mono ?_
 rintro e w2 ⟨rfl,hb2⟩
 have B:=hide (hb1.trans (hb2.mono hb1.size))
 clear hb1 hb2 K1 K2
 go_wp2
 exact bodyPost_ret (v:=.tuple #[.int .u64 9221120237041090560,.int .u8 16]) (by simp [results,Tryz.results224,go_sem]) rfl ⟨rfl,uH B⟩
theorem tdiv_zz (a b:Nat) (w:World) 
  (C1:∀ w',Calls Tryz.prog 113 #[.int .u64 a] w' fun r w''=>r = .returned (.int .i64 0)∧Below w'.heap.size w' w'')
  (C2:∀ w',Calls Tryz.prog 113 #[.int .u64 b] w' fun r w''=>r = .returned (.int .i64 0)∧Below w'.heap.size w' w'') :
  Calls Tryz.prog 224 #[.int .u64 a,.int .u64 b] w fun r w'=>r = .returned (.tuple #[.int .u64 9221120237041090560,.int .u8 16])∧Below w.heap.size w w':=by
 have K1:=hide C1;have K2:=hide C2
 clear C1 C2
 go_enter Tryz.func224,Tryz.ntmps224
 go_wp2_with fail
 refine (uH K1 _).mono ?_
 rintro e w1 ⟨rfl,hb1⟩
 go_wp2_with fail
 refine (uH K2 _).mono ?_
 rintro e w2 ⟨rfl,hb2⟩
 have B:=hide (hb1.trans (hb2.mono hb1.size))
 clear hb1 hb2 K1 K2
 go_wp2
 exact bodyPost_ret (v:=.tuple #[.int .u64 9221120237041090560,.int .u8 16]) (by simp [results,Tryz.results224,go_sem]) rfl ⟨rfl,uH B⟩
theorem tdiv_i (a b:Nat) (kb:Int) (o:Nat) (w:World) (h0:(kb == 4) = false) (h1:(kb == 3) = false)
  (C1:∀ w',Calls Tryz.prog 113 #[.int .u64 a] w' fun r w''=>r = .returned (.int .i64 3)∧Below w'.heap.size w' w'')
  (C2:∀ w',Calls Tryz.prog 113 #[.int .u64 b] w' fun r w''=>r = .returned (.int .i64 kb)∧Below w'.heap.size w' w'')
  (C3:∀ w',Calls Tryz.prog 253 #[.int .u64 9218868437227405312,.int .u64 a,.int .u64 b] w' fun r w''=>r = .returned (.int .u64 (o:Nat))∧Below w'.heap.size w' w'') :
  Calls Tryz.prog 224 #[.int .u64 a,.int .u64 b] w fun r w'=>r = .returned (.tuple #[.int .u64 (o:Nat),.int .u8 0])∧Below w.heap.size w w':=by
 have K1:=hide C1;have K2:=hide C2
 clear C1 C2
 go_enter Tryz.func224,Tryz.ntmps224
 go_wp2_with fail
 refine (uH K1 _).mono ?_
 rintro e w1 ⟨rfl,hb1⟩
 go_wp2_with fail
 refine (uH K2 _).mono ?_
 rintro e w2 ⟨rfl,hb2⟩
 have B:=hide (hb1.trans (hb2.mono hb1.size))
 clear hb1 hb2 K1 K2
 have K3:=hide C3
 clear C3
 go_wp2_with fail
 refine (uH K3 _).mono ?_
 rintro e w3 ⟨rfl,hb3⟩
 have B:=hide ((uH B).trans (hb3.mono (uH B).size))
 clear hb3 K3
 go_wp2
 exact bodyPost_ret (v:=.tuple #[.int .u64 (o:Nat),.int .u8 0]) (by simp [results,Tryz.results224,go_sem]) rfl ⟨rfl,uH B⟩
theorem tdiv_z (a b:Nat) (kb:Int) (o:Nat) (w:World) (h0:(kb == 4) = false) (h1:(kb == 0) = false)
  (C1:∀ w',Calls Tryz.prog 113 #[.int .u64 a] w' fun r w''=>r = .returned (.int .i64 0)∧Below w'.heap.size w' w'')
  (C2:∀ w',Calls Tryz.prog 113 #[.int .u64 b] w' fun r w''=>r = .returned (.int .i64 kb)∧Below w'.heap.size w' w'')
  (C3:∀ w',Calls Tryz.prog 253 #[.int .u64 0,.int .u64 a,.int .u64 b] w' fun r w''=>r = .returned (.int .u64 (o:Nat))∧Below w'.heap.size w' w'') :
  Calls Tryz.prog 224 #[.int .u64 a,.int .u64 b] w fun r w'=>r = .returned (.tuple #[.int .u64 (o:Nat),.int .u8 0])∧Below w.heap.size w w':=by
 have K1:=hide C1;have K2:=hide C2
 clear C1 C2
 go_enter Tryz.func224,Tryz.ntmps224
 go_wp2_with fail
 refine (uH K1 _).mono ?_
 rintro e w1 ⟨rfl,hb1⟩
 go_wp2_with fail
 refine (uH K2 _).mono ?_
 rintro e w2 ⟨rfl,hb2⟩
 have B:=hide (hb1.trans (hb2.mono hb1.size))
 clear hb1 hb2 K1 K2
 have K3:=hide C3
 clear C3
 go_wp2_with fail
 refine (uH K3 _).mono ?_
 rintro e w3 ⟨rfl,hb3⟩
 have B:=hide ((uH B).trans (hb3.mono (uH B).size))
 clear hb3 K3
 go_wp2
 exact bodyPost_ret (v:=.tuple #[.int .u64 (o:Nat),.int .u8 0]) (by simp [results,Tryz.results224,go_sem]) rfl ⟨rfl,uH B⟩
theorem tdiv_j (a b:Nat) (ka:Int) (o:Nat) (w:World) (h0:(ka == 4) = false) (h1:(ka == 3) = false) (h2:(ka == 0) = false)
  (C1:∀ w',Calls Tryz.prog 113 #[.int .u64 a] w' fun r w''=>r = .returned (.int .i64 ka)∧Below w'.heap.size w' w'')
  (C2:∀ w',Calls Tryz.prog 113 #[.int .u64 b] w' fun r w''=>r = .returned (.int .i64 3)∧Below w'.heap.size w' w'')
  (C3:∀ w',Calls Tryz.prog 253 #[.int .u64 0,.int .u64 a,.int .u64 b] w' fun r w''=>r = .returned (.int .u64 (o:Nat))∧Below w'.heap.size w' w'') :
  Calls Tryz.prog 224 #[.int .u64 a,.int .u64 b] w fun r w'=>r = .returned (.tuple #[.int .u64 (o:Nat),.int .u8 0])∧Below w.heap.size w w':=by
 have K1:=hide C1;have K2:=hide C2
 clear C1 C2
 go_enter Tryz.func224,Tryz.ntmps224
 go_wp2_with fail
 refine (uH K1 _).mono ?_
 rintro e w1 ⟨rfl,hb1⟩
 go_wp2_with fail
 refine (uH K2 _).mono ?_
 rintro e w2 ⟨rfl,hb2⟩
 have B:=hide (hb1.trans (hb2.mono hb1.size))
 clear hb1 hb2 K1 K2
 have K3:=hide C3
 clear C3
 go_wp2_with fail
 refine (uH K3 _).mono ?_
 rintro e w3 ⟨rfl,hb3⟩
 have B:=hide ((uH B).trans (hb3.mono (uH B).size))
 clear hb3 K3
 go_wp2
 exact bodyPost_ret (v:=.tuple #[.int .u64 (o:Nat),.int .u8 0]) (by simp [results,Tryz.results224,go_sem]) rfl ⟨rfl,uH B⟩
theorem tdiv_y (a b:Nat) (ka:Int) (o:Nat) (w:World) (h0:(ka == 4) = false) (h1:(ka == 3) = false) (h2:(ka == 0) = false)
  (C1:∀ w',Calls Tryz.prog 113 #[.int .u64 a] w' fun r w''=>r = .returned (.int .i64 ka)∧Below w'.heap.size w' w'')
  (C2:∀ w',Calls Tryz.prog 113 #[.int .u64 b] w' fun r w''=>r = .returned (.int .i64 0)∧Below w'.heap.size w' w'')
  (C3:∀ w',Calls Tryz.prog 253 #[.int .u64 9218868437227405312,.int .u64 a,.int .u64 b] w' fun r w''=>r = .returned (.int .u64 (o:Nat))∧Below w'.heap.size w' w'') :
  Calls Tryz.prog 224 #[.int .u64 a,.int .u64 b] w fun r w'=>r = .returned (.tuple #[.int .u64 (o:Nat),.int .u8 8])∧Below w.heap.size w w':=by
 have K1:=hide C1;have K2:=hide C2
 clear C1 C2
 go_enter Tryz.func224,Tryz.ntmps224
 go_wp2_with fail
 refine (uH K1 _).mono ?_
 rintro e w1 ⟨rfl,hb1⟩
 go_wp2_with fail
 refine (uH K2 _).mono ?_
 rintro e w2 ⟨rfl,hb2⟩
 have B:=hide (hb1.trans (hb2.mono hb1.size))
 clear hb1 hb2 K1 K2
 have K3:=hide C3
 clear C3
 go_wp2_with fail
 refine (uH K3 _).mono ?_
 rintro e w3 ⟨rfl,hb3⟩
 have B:=hide ((uH B).trans (hb3.mono (uH B).size))
 clear hb3 K3
 go_wp2
 exact bodyPost_ret (v:=.tuple #[.int .u64 (o:Nat),.int .u8 8]) (by simp [results,Tryz.results224,go_sem]) rfl ⟨rfl,uH B⟩
theorem tdiv_f (a b:Nat) (ka kb:Int) (fl:Int) (o:Nat) (w:World) (h0:(ka == 4) = false) (h1:(ka == 3) = false) (h2:(ka == 0) = false) (h3:(kb == 4) = false) (h4:(kb == 3) = false) (h5:(kb == 0) = false) (hT:Tab w)
  (C1:∀ w',Calls Tryz.prog 113 #[.int .u64 a] w' fun r w''=>r = .returned (.int .i64 ka)∧Below w'.heap.size w' w'')
  (C2:∀ w',Calls Tryz.prog 113 #[.int .u64 b] w' fun r w''=>r = .returned (.int .i64 kb)∧Below w'.heap.size w' w'')
  (C3:∀ w',Tab w'→Calls Tryz.prog 255 #[.int .u64 a,.int .u64 b] w' fun r w''=>r = .returned (.tuple #[.int .u64 (o:Nat),.int .u8 fl])∧Below w'.heap.size w' w'') :
  Calls Tryz.prog 224 #[.int .u64 a,.int .u64 b] w fun r w'=>r = .returned (.tuple #[.int .u64 (o:Nat),.int .u8 fl])∧Below w.heap.size w w':=by
 have K1:=hide C1;have K2:=hide C2
 clear C1 C2
 go_enter Tryz.func224,Tryz.ntmps224
 go_wp2_with fail
 refine (uH K1 _).mono ?_
 rintro e w1 ⟨rfl,hb1⟩
 go_wp2_with fail
 refine (uH K2 _).mono ?_
 rintro e w2 ⟨rfl,hb2⟩
 have B:=hide (hb1.trans (hb2.mono hb1.size))
 clear hb1 hb2 K1 K2
 have K3:=hide C3;have HT:=hide (hT.all (uH B))
 clear C3 hT
 go_wp2_with fail
 refine (uH K3 _ (uH HT)).mono ?_
 rintro e w3 ⟨rfl,hb3⟩
 have B:=hide ((uH B).trans (hb3.mono (uH B).size))
 clear hb3 K3 HT
 go_wp2
 exact bodyPost_ret (v:=.tuple #[.int .u64 (o:Nat),.int .u8 fl]) (by simp [results,Tryz.results224,go_sem]) rfl ⟨rfl,uH B⟩
theorem tdiv_any (a b:Nat) (w:World) (ha:a < 18446744073709551616) (hb:b < 18446744073709551616) (hT:Tab w) :
  Calls Tryz.prog 224 #[.int .u64 a,.int .u64 b] w fun r w'=>r = .returned (.tuple #[.int .u64 (dV a b:Nat),.int .u8 (dF a b)])∧Below w.heap.size w w':=by
 have C1:=fun w'=>kind_any a w' ha
 have C2:=fun w'=>kind_any b w' hb
 have CI:=fun w'=>tsigned_any 9218868437227405312 a b w' ha hb (by decide)
 have CZ:=fun w'=>tsigned_any 0 a b w' ha hb (by decide)
 by_cases a4:fK a = 4
 ·rw [show dV a b = 9221120237041090560 by unfold dV;rw [if_pos (Or.inl a4)],show dF a b = 0 by unfold dF;rw [if_pos (Or.inl a4)]]
  rw [a4] at C1
  exact tdiv_n1 a b _ w C1 C2
 by_cases b4:fK b = 4
 ·rw [show dV a b = 9221120237041090560 by unfold dV;rw [if_pos (Or.inr b4)],show dF a b = 0 by unfold dF;rw [if_pos (Or.inr b4)]]
  rw [b4] at C2
  exact tdiv_n2 a b _ w (by simp [a4]) C1 C2
 have n4:¬ (fK a = 4 ∨ fK b = 4):=by omega
 by_cases hs:fK a = fK b∧(fK a = 3 ∨ fK a = 0)
 ·rw [show dV a b = 9221120237041090560 by unfold dV;rw [if_neg n4,if_pos hs],show dF a b = 16 by unfold dF;rw [if_neg n4,if_pos hs]]
  rcases hs with ⟨h1,h3 | h0⟩
  ·rw [h3] at C1
   rw [← h1,h3] at C2
   exact tdiv_ii a b w C1 C2
  ·rw [h0] at C1
   rw [← h1,h0] at C2
   exact tdiv_zz a b w C1 C2
 by_cases a3:fK a = 3
 ·rw [show dV a b = wrd (fS a ^^ fS b) 9218868437227405312 by unfold dV;rw [if_neg n4,if_neg hs,if_pos a3],show dF a b = 0 by unfold dF;rw [if_neg n4,if_neg hs,if_pos a3]]
  rw [a3] at C1
  exact tdiv_i a b _ _ w (by simp [b4]) (by simp;omega) C1 C2 CI
 by_cases h3:fK b = 3 ∨ fK a = 0
 ·rw [show dV a b = wrd (fS a ^^ fS b) 0 by unfold dV;rw [if_neg n4,if_neg hs,if_neg a3,if_pos h3],show dF a b = 0 by unfold dF;rw [if_neg n4,if_neg hs,if_neg a3,if_pos h3]]
  by_cases a0:fK a = 0
  ·rw [a0] at C1
   exact tdiv_z a b _ _ w (by simp [b4]) (by simp;omega) C1 C2 CZ
  ·have b3:fK b = 3:=by omega
   rw [b3] at C2
   exact tdiv_j a b _ _ w (by simp [a4]) (by simp [a3]) (by simp [a0]) C1 C2 CZ
 by_cases b0:fK b = 0
 ·rw [show dV a b = wrd (fS a ^^ fS b) 9218868437227405312 by unfold dV;rw [if_neg n4,if_neg hs,if_neg a3,if_neg h3,if_pos b0],show dF a b = 8 by unfold dF;rw [if_neg n4,if_neg hs,if_neg a3,if_neg h3,if_pos b0]]
  rw [b0] at C2
  exact tdiv_y a b _ _ w (by simp [a4]) (by simp [a3]) (by simp;omega) C1 C2 CI
 ·exact tdiv_f a b _ _ _ _ w (by simp [a4]) (by simp [a3]) (by simp;omega) (by simp [b4]) (by simp;omega) (by simp [b0]) hT C1 C2 (fun w' t=>divFinite_any a b w' ha hb (fin_of a a3 a4) (fin_of b (by omega) b4) (by omega) b0 t)
end Go.Proofs.YtdhmglmccafbnaaGreatDoor
namespace Go.Proofs.YtdhmglmccafbnaaGreatDoor
open Go.RowKit
theorem fmul_run (t:TypeId) (x y:Nat) (w:World):(binOp .mul t (.float .f64 x) (.float .f64 y)).run Tryz.prog w = .ok (.float .f64 (fres (Ieee.double.mul x y) x y w)) (fwld (Ieee.double.mul x y) w):=by
 have hf:FloatKind.f64.format = Ieee.double:=rfl
 cases h:Ieee.double.mul x y with
 | some r=>exact run_float_arith w .mul t .f64 x y r (by unfold floatBits;rw [hf];exact h)
 | none =>
  simp only [binOp,Op.floatArith,hf,h]
  rfl
theorem wrd_kind (n:Bool) (r:Nat) (h:r≤9218868437227405312):fK (wrd n r) ≠ 4:=fun h4=>by
 have:=(fK_rungs _).1.1 h4
 have e:fR (wrd n r) = r:=by unfold fR;exact (wrd_parts n r (by omega)).2
 omega
end Go.Proofs.YtdhmglmccafbnaaGreatDoor
namespace Go.Proofs.YtdhmglmccafbnaaGreatDoor
open Go.RowKit
theorem andNot_top (b:Nat) (h:b < 18446744073709551616):bits .andNot .u64 (b:Int) 9223372036854775808 = (fR b:Int):=by
 have h1:=u64_andNot_nat b 9223372036854775808 h (by decide)
 refine h1.trans ?_
 rw [show 18446744073709551615 - 9223372036854775808 = 2 ^ 63 - 1 by decide,Nat.and_two_pow_sub_one_eq_mod]
 rfl
theorem and_2048 (x:Nat) (h:x < 4096):x &&& 2048 = x / 2048 * 2048:=by
 have h2:(x &&& 2 ^ 11) % 2 ^ 11 = 0:=by rw [Nat.and_mod_two_pow];simp
 have h3:(x &&& 2 ^ 11) / 2 ^ 11 = (x / 2 ^ 11) &&& 1:=by rw [Nat.and_div_two_pow]
 rw [Nat.and_one_is_mod] at h3
 have h4:=Nat.div_add_mod (x &&& 2 ^ 11) (2 ^ 11)
 rw [h2,h3] at h4
 rw [show (2048:Nat) = 2 ^ 11 by decide]
 omega
theorem and_clear (b:Nat) (h:b < 18446744073709551616):b &&& 9227875636482146303 = b / 9223372036854775808 * 9223372036854775808+b % 4503599627370496:=by
 have e1:(b &&& 9227875636482146303) % 2 ^ 52 = b % 4503599627370496:=by
  rw [Nat.and_mod_two_pow,show 9227875636482146303 % 2 ^ 52 = 2 ^ 52 - 1 by decide,Nat.and_two_pow_sub_one_eq_mod,Nat.mod_mod]
 have e2:(b &&& 9227875636482146303) / 2 ^ 52 = b / 4503599627370496 / 2048 * 2048:=by
  rw [Nat.and_div_two_pow,show 9227875636482146303 / 2 ^ 52 = 2048 by decide]
  exact and_2048 _ (by omega)
 have:=Nat.div_add_mod (b &&& 9227875636482146303) (2 ^ 52)
 rw [e1,e2] at this
 omega
theorem andNot_mid (s:Bool) (q:Nat) (h:q < 9223372036854775808):bits .andNot .u64 (wrd s q:Nat) 9218868437227405312 = (wrd s (q % 4503599627370496):Nat):=by
 have h1:=u64_andNot_nat (wrd s q) 9218868437227405312 (wrd_lt s q h) (by decide)
 refine h1.trans ?_
 rw [show 18446744073709551615 - 9218868437227405312 = 9227875636482146303 by decide,and_clear _ (wrd_lt s q h)]
 congr 1
 cases s
 ·rw [wrd_false,wrd_false];omega
 ·rw [wrd_true,wrd_true];omega
theorem or_mid (s:Bool) (f p:Nat) (hf:f < 4503599627370496) (hp:p < 2048):bits .or .u64 (wrd s f:Nat) ((p * 4503599627370496:Nat):Int) = (wrd s (f+p * 4503599627370496):Nat):=by
 have h1:=bits_or_u64_nat (wrd s f) (p * 4503599627370496) (wrd_lt s f (by omega)) (by omega)
 refine h1.trans ?_
 congr 1
 obtain ⟨t,ht⟩:∃ t,wrd s f = t * 2048 * 4503599627370496+f∧t≤1:=by
  cases s
  ·exact ⟨0,by rw [wrd_false];omega,by omega⟩
  ·exact ⟨1,by rw [wrd_true];omega,by omega⟩
 have e1:(wrd s f ||| p * 4503599627370496) % 2 ^ 52 = f:=by
  rw [Nat.or_mod_two_pow,show p * 4503599627370496 % 2 ^ 52 = 0 by omega,Nat.or_zero]
  omega
 have e2:(wrd s f ||| p * 4503599627370496) / 2 ^ 52 = p+t * 2 ^ 11:=by
  rw [Nat.or_div_two_pow,show p * 4503599627370496 / 2 ^ 52 = p by omega,show wrd s f / 2 ^ 52 = t * 2 ^ 11 by omega,Nat.or_comm]
  exact or_above p t 11 (by omega)
 have:=Nat.div_add_mod (wrd s f ||| p * 4503599627370496) (2 ^ 52)
 rw [e1,e2] at this
 cases s
 ·rw [wrd_false] at *;rw [wrd_false];omega
 ·rw [wrd_true] at *;rw [wrd_true];omega
theorem and_2047 (k:Nat) (h:k < 4096):bits .and .i64 (k:Int) 2047 = ((k % 2048:Nat):Int):=by
 have h1:=Go.bits_nat .i64 62 (by decide) (fun x h0 h1=>by rw [IntKind.wrap_i64];simp at h1;omega) k 2047 (by simp;omega) (by decide)
 refine h1.1.trans ?_
 rw [show (2047:Nat) = 2 ^ 11 - 1 by decide,Nat.and_two_pow_sub_one_eq_mod]
theorem mabs_any (b:Nat) (w:World) (h:b < 18446744073709551616) :
  Calls Tryz.prog 274 #[.float .f64 b] w fun r w'=>r = .returned (.float .f64 (fR b))∧w = w':=by
 have hB:=fun W=>tobits5 b W
 have k:=andNot_top b h
 generalize fR b = q at *
 have hF:=fun W=>frombits5 q W
 go_enter Tryz.func274,Tryz.ntmps274
 go_wp2_with (simp only [k])
 go_ret
 exact ⟨rfl,rfl⟩
theorem isInf_of (b q:Nat) (o:Option Ordering) (i:Bool) (w:World) (hO:FloatKind.f64.format.order q 9218868437227405311 = o)
  (hw:(o = none∧i = false) ∨ (o = some .lt∧i = false) ∨ (o = some .eq∧i = false) ∨ (o = some .gt∧i = true))
  (C1:∀ w',Calls Tryz.prog 274 #[.float .f64 b] w' fun r w''=>r = .returned (.float .f64 q)∧w' = w'') :
  Calls Tryz.prog 243 #[.float .f64 b,.int .i64 0] w fun r w'=>r = .returned (.bool i)∧w = w':=by
 have K1:=hide C1
 clear C1
 rcases hw with ⟨rfl,rfl⟩ | ⟨rfl,rfl⟩ | ⟨rfl,rfl⟩ | ⟨rfl,rfl⟩
 all_goals
  go_enter Tryz.func243,Tryz.ntmps243
  go_wp2_with fail
  refine (uH K1 _).mono ?_
  rintro e w1 ⟨rfl,rfl⟩
  clear K1
  go_wp2
  go_ret
  exact ⟨rfl,rfl⟩
theorem isNaN_of (b:Nat) (o:Option Ordering) (i:Bool) (w:World) (hO:FloatKind.f64.format.order b b = o)
  (hw:(o = none∧i = true) ∨ (o = some .eq∧i = false)) :
  Calls Tryz.prog 244 #[.float .f64 b] w fun r w'=>r = .returned (.bool i)∧w = w':=by
 rcases hw with ⟨rfl,rfl⟩ | ⟨rfl,rfl⟩
 all_goals
  go_enter Tryz.func244,Tryz.ntmps244
  go_wp2
  go_ret
  exact ⟨rfl,rfl⟩
theorem copysign0_any (b:Nat) (w:World) (h:b < 18446744073709551616) :
  Calls Tryz.prog 246 #[.float .f64 0,.float .f64 b] w fun r w'=>r = .returned (.float .f64 (wrd (fS b) 0))∧w = w':=by
 have hB1:∀ W,(callFunc 109 #[.float .f64 0]).run Tryz.prog W = .ok (.value (.int .u64 0)) W:=fun W=>tobits5 0 W
 have hB2:=fun W=>tobits5 b W
 have a1:bits .andNot .u64 0 9223372036854775808 = 0:=by decide +kernel
 have a2:=and_top b h
 cases hs:fS b
 ·rw [hs] at a2
  simp only [Bool.false_eq_true,if_false] at a2
  rw [wrd_false]
  have hF:∀ W,(callFunc 216 #[.int .u64 0]).run Tryz.prog W = .ok (.value (.float .f64 0)) W:=fun W=>frombits5 0 W
  have a3:bits .or .u64 0 0 = 0:=by decide +kernel
  go_enter Tryz.func246,Tryz.ntmps246
  go_wp2_with (simp only [a1,a2,a3])
  go_ret
  exact ⟨rfl,rfl⟩
 ·rw [hs] at a2
  simp only [if_true] at a2
  rw [wrd_true]
  have hF:∀ W,(callFunc 216 #[.int .u64 9223372036854775808]).run Tryz.prog W = .ok (.value (.float .f64 9223372036854775808)) W:=fun W=>frombits5 9223372036854775808 W
  have a3:bits .or .u64 0 9223372036854775808 = 9223372036854775808:=by decide +kernel
  go_enter Tryz.func246,Tryz.ntmps246
  go_wp2_with (simp only [a1,a2,a3])
  go_ret
  exact ⟨rfl,rfl⟩
theorem inf8_any (s:Int) (o:Nat) (w:World) (hw:(s = 1∧o = 9218868437227405312) ∨ (s = -1∧o = 18442240474082181120)) :
  Calls Tryz.prog 247 #[.int .i64 s] w fun e w'=>e = .returned (.float .f64 o)∧w = w':=by
 have hF1:∀ W,(callFunc 216 #[.int .u64 9218868437227405312]).run Tryz.prog W = .ok (.value (.float .f64 9218868437227405312)) W:=fun W=>frombits5 9218868437227405312 W
 have hF2:∀ W,(callFunc 216 #[.int .u64 18442240474082181120]).run Tryz.prog W = .ok (.value (.float .f64 18442240474082181120)) W:=fun W=>frombits5 18442240474082181120 W
 rcases hw with ⟨rfl,rfl⟩ | ⟨rfl,rfl⟩
 all_goals
  go_enter Tryz.func247,Tryz.ntmps247
  go_wp2
  go_ret
  exact ⟨rfl,rfl⟩
theorem normalize_of (b q r:Nat) (e:Int) (o:Option Ordering) (w:World) (hO:FloatKind.f64.format.order q 4503599627370496 = o)
  (hw:(o = some .lt∧e = -52∧∀ i w',(binOp .mul i (.float .f64 b) (.float .f64 4841369599423283200)).run Tryz.prog w' = .ok (.float .f64 r) w') ∨ (o = some .eq∧e = 0∧r = b) ∨ (o = some .gt∧e = 0∧r = b))
  (C1:∀ w',Calls Tryz.prog 274 #[.float .f64 b] w' fun r w''=>r = .returned (.float .f64 q)∧w' = w'') :
  Calls Tryz.prog 245 #[.float .f64 b] w fun s w'=>s = .returned (.tuple #[.float .f64 r,.int .i64 e])∧w = w':=by
 have K1:=hide C1
 clear C1
 rcases hw with ⟨rfl,rfl,hm⟩ | ⟨rfl,rfl,rfl⟩ | ⟨rfl,rfl,rfl⟩
 all_goals
  go_enter Tryz.func245,Tryz.ntmps245
  go_wp2_with fail
  refine (uH K1 _).mono ?_
  rintro e w1 ⟨rfl,rfl⟩
  clear K1
  go_wp2
  exact bodyPost_ret (v:=.tuple #[.float .f64 r,.int .i64 _]) (by simp [results,Tryz.results245,go_sem];try rfl) rfl ⟨rfl,rfl⟩
end Go.Proofs.YtdhmglmccafbnaaGreatDoor
namespace Go.Proofs.YtdhmglmccafbnaaGreatDoor
open Go.RowKit
theorem ldexp_low (a x z p:Nat) (n e E:Int) (o:Option Ordering) (w:World) (hO:FloatKind.f64.format.order a 0 = o) (ho:o = some .lt ∨ o = some .gt)
  (hp:p < 2048) (hn:-5000≤n∧n≤5000) (he:-52≤e∧e≤0) (hq:(x:Int) / 4503599627370496 < 4096) (hA:bits .and .i64 ((x:Int) / 4503599627370496) 2047 = (p:Int)) (hE:n+e+((p:Int) - 1023) = E) (g1:E < -1075)
  (C1:∀ w',Calls Tryz.prog 243 #[.float .f64 a,.int .i64 0] w' fun r w''=>r = .returned (.bool false)∧w' = w'')
  (C2:∀ w',Calls Tryz.prog 244 #[.float .f64 a] w' fun r w''=>r = .returned (.bool false)∧w' = w'')
  (C3:∀ w',Calls Tryz.prog 245 #[.float .f64 a] w' fun r w''=>r = .returned (.tuple #[.float .f64 x,.int .i64 e])∧w' = w'')
  (C4:∀ w',Calls Tryz.prog 246 #[.float .f64 0,.float .f64 x] w' fun r w''=>r = .returned (.float .f64 z)∧w' = w'')
  (hB:∀ W,(callFunc 109 #[.float .f64 x]).run Tryz.prog W = .ok (.value (.int .u64 x)) W) :
  Calls Tryz.prog 215 #[.float .f64 a,.int .i64 n] w fun r w'=>r = .returned (.float .f64 z)∧w = w':=by
 have K1:=hide C1;have K2:=hide C2;have K3:=hide C3;have K4:=hide C4
 clear C1 C2 C3 C4
 have d1:decide (E < -1075) = true:=decide_eq_true g1
 rcases ho with rfl | rfl
 all_goals
  go_enter Tryz.func215,Tryz.ntmps215
  go_wp2_with fail
  refine (uH K1 _).mono ?_
  rintro e w1 ⟨rfl,rfl⟩
  go_wp2_with fail
  refine (uH K2 _).mono ?_
  rintro e w1 ⟨rfl,rfl⟩
  go_wp2_with fail
  refine (uH K3 _).mono ?_
  rintro e w1 ⟨rfl,rfl⟩
  clear K1 K2 K3
  go_wp2_with fail
  refine (uH K4 _).mono ?_
  rintro e w1 ⟨rfl,rfl⟩
  clear K4
  go_wp2
  go_ret
  exact ⟨rfl,rfl⟩
theorem ldexp_high (a x z p:Nat) (n e E:Int) (o o2:Option Ordering) (w:World) (hO:FloatKind.f64.format.order a 0 = o) (ho:o = some .lt ∨ o = some .gt) (hO2:FloatKind.f64.format.order x 0 = o2)
  (hz:(o2 = some .lt∧z = 18442240474082181120) ∨ (o2 = some .gt∧z = 9218868437227405312))
  (hp:p < 2048) (hn:-5000≤n∧n≤5000) (he:-52≤e∧e≤0) (hq:(x:Int) / 4503599627370496 < 4096) (hA:bits .and .i64 ((x:Int) / 4503599627370496) 2047 = (p:Int)) (hE:n+e+((p:Int) - 1023) = E) (g1:1023 < E)
  (C1:∀ w',Calls Tryz.prog 243 #[.float .f64 a,.int .i64 0] w' fun r w''=>r = .returned (.bool false)∧w' = w'')
  (C2:∀ w',Calls Tryz.prog 244 #[.float .f64 a] w' fun r w''=>r = .returned (.bool false)∧w' = w'')
  (C3:∀ w',Calls Tryz.prog 245 #[.float .f64 a] w' fun r w''=>r = .returned (.tuple #[.float .f64 x,.int .i64 e])∧w' = w'')
  (hB:∀ W,(callFunc 109 #[.float .f64 x]).run Tryz.prog W = .ok (.value (.int .u64 x)) W) :
  Calls Tryz.prog 215 #[.float .f64 a,.int .i64 n] w fun r w'=>r = .returned (.float .f64 z)∧w = w':=by
 have K1:=hide C1;have K2:=hide C2;have K3:=hide C3
 have K4:=hide (fun w'=>inf8_any 1 9218868437227405312 w' (by decide))
 have K5:=hide (fun w'=>inf8_any (-1) 18442240474082181120 w' (by decide))
 clear C1 C2 C3
 have d1:decide (E < -1075) = false:=decide_eq_false (by omega)
 have d2:decide (1023 < E) = true:=decide_eq_true g1
 have hE0:-1075≤E:=by omega
 rcases hz with ⟨rfl,rfl⟩ | ⟨rfl,rfl⟩ <;> rcases ho with rfl | rfl
 all_goals
  go_enter Tryz.func215,Tryz.ntmps215
  go_wp2_with fail
  refine (uH K1 _).mono ?_
  rintro e w1 ⟨rfl,rfl⟩
  go_wp2_with fail
  refine (uH K2 _).mono ?_
  rintro e w1 ⟨rfl,rfl⟩
  go_wp2_with fail
  refine (uH K3 _).mono ?_
  rintro e w1 ⟨rfl,rfl⟩
  clear K1 K2 K3
  go_wp2_with fail
  first | refine (uH K4 _).mono ?_ | refine (uH K5 _).mono ?_
  rintro e w1 ⟨rfl,rfl⟩
  clear K4 K5
  go_wp2
  go_ret
  exact ⟨rfl,rfl⟩
theorem ldexp_mid (a x y v r p:Nat) (n e E:Int) (o:Option Ordering) (w:World) (hO:FloatKind.f64.format.order a 0 = o) (ho:o = some .lt ∨ o = some .gt)
  (hp:p < 2048) (hn:-5000≤n∧n≤5000) (he:-52≤e∧e≤0) (hq:(x:Int) / 4503599627370496 < 4096) (hA:bits .and .i64 ((x:Int) / 4503599627370496) 2047 = (p:Int)) (hE:n+e+((p:Int) - 1023) = E) (g1:-1022≤E) (g2:E≤1023)
  (hY:bits .andNot .u64 (x:Int) 9218868437227405312 = (y:Int)) (hV:bits .or .u64 (y:Int) ((E+1023) * 4503599627370496) = (v:Int))
  (hF:∀ W,(callFunc 216 #[.int .u64 v]).run Tryz.prog W = .ok (.value (.float .f64 v)) W)
  (hM:∀ i w',(binOp .mul i (.float .f64 4607182418800017408) (.float .f64 v)).run Tryz.prog w' = .ok (.float .f64 r) w')
  (C1:∀ w',Calls Tryz.prog 243 #[.float .f64 a,.int .i64 0] w' fun r w''=>r = .returned (.bool false)∧w' = w'')
  (C2:∀ w',Calls Tryz.prog 244 #[.float .f64 a] w' fun r w''=>r = .returned (.bool false)∧w' = w'')
  (C3:∀ w',Calls Tryz.prog 245 #[.float .f64 a] w' fun r w''=>r = .returned (.tuple #[.float .f64 x,.int .i64 e])∧w' = w'')
  (hB:∀ W,(callFunc 109 #[.float .f64 x]).run Tryz.prog W = .ok (.value (.int .u64 x)) W) :
  Calls Tryz.prog 215 #[.float .f64 a,.int .i64 n] w fun s w'=>s = .returned (.float .f64 r)∧w = w':=by
 have K1:=hide C1;have K2:=hide C2;have K3:=hide C3
 clear C1 C2 C3
 have d1:decide (E < -1075) = false:=decide_eq_false (by omega)
 have d2:decide (1023 < E) = false:=decide_eq_false (by omega)
 have d3:decide (E < -1022) = false:=decide_eq_false (by omega)
 rcases ho with rfl | rfl
 all_goals
  go_enter Tryz.func215,Tryz.ntmps215
  go_wp2_with fail
  refine (uH K1 _).mono ?_
  rintro e w1 ⟨rfl,rfl⟩
  go_wp2_with fail
  refine (uH K2 _).mono ?_
  rintro e w1 ⟨rfl,rfl⟩
  go_wp2_with fail
  refine (uH K3 _).mono ?_
  rintro e w1 ⟨rfl,rfl⟩
  clear K1 K2 K3
  go_wp2
  go_ret
  exact ⟨rfl,rfl⟩
theorem ldexp_sub (a x y v r p:Nat) (n e E:Int) (o:Option Ordering) (w:World) (hO:FloatKind.f64.format.order a 0 = o) (ho:o = some .lt ∨ o = some .gt)
  (hp:p < 2048) (hn:-5000≤n∧n≤5000) (he:-52≤e∧e≤0) (hq:(x:Int) / 4503599627370496 < 4096) (hA:bits .and .i64 ((x:Int) / 4503599627370496) 2047 = (p:Int)) (hE:n+e+((p:Int) - 1023) = E) (g1:-1075≤E) (g2:E < -1022)
  (hY:bits .andNot .u64 (x:Int) 9218868437227405312 = (y:Int)) (hV:bits .or .u64 (y:Int) ((E+53+1023) * 4503599627370496) = (v:Int))
  (hF:∀ W,(callFunc 216 #[.int .u64 v]).run Tryz.prog W = .ok (.value (.float .f64 v)) W)
  (hM:∀ i w',(binOp .mul i (.float .f64 4368491638549381120) (.float .f64 v)).run Tryz.prog w' = .ok (.float .f64 r) w')
  (C1:∀ w',Calls Tryz.prog 243 #[.float .f64 a,.int .i64 0] w' fun r w''=>r = .returned (.bool false)∧w' = w'')
  (C2:∀ w',Calls Tryz.prog 244 #[.float .f64 a] w' fun r w''=>r = .returned (.bool false)∧w' = w'')
  (C3:∀ w',Calls Tryz.prog 245 #[.float .f64 a] w' fun r w''=>r = .returned (.tuple #[.float .f64 x,.int .i64 e])∧w' = w'')
  (hB:∀ W,(callFunc 109 #[.float .f64 x]).run Tryz.prog W = .ok (.value (.int .u64 x)) W) :
  Calls Tryz.prog 215 #[.float .f64 a,.int .i64 n] w fun s w'=>s = .returned (.float .f64 r)∧w = w':=by
 have K1:=hide C1;have K2:=hide C2;have K3:=hide C3
 clear C1 C2 C3
 have d1:decide (E < -1075) = false:=decide_eq_false (by omega)
 have d2:decide (1023 < E) = false:=decide_eq_false (by omega)
 have d3:decide (E < -1022) = true:=decide_eq_true (by omega)
 rcases ho with rfl | rfl
 all_goals
  go_enter Tryz.func215,Tryz.ntmps215
  go_wp2_with fail
  refine (uH K1 _).mono ?_
  rintro e w1 ⟨rfl,rfl⟩
  go_wp2_with fail
  refine (uH K2 _).mono ?_
  rintro e w1 ⟨rfl,rfl⟩
  go_wp2_with fail
  refine (uH K3 _).mono ?_
  rintro e w1 ⟨rfl,rfl⟩
  clear K1 K2 K3
  go_wp2
  go_ret
  exact ⟨rfl,rfl⟩
theorem ldexp_zero (a:Nat) (n:Int) (w:World) (hO:FloatKind.f64.format.order a 0 = some .eq) :
  Calls Tryz.prog 215 #[.float .f64 a,.int .i64 n] w fun s w'=>s = .returned (.float .f64 a)∧w = w':=by
 go_enter Tryz.func215,Tryz.ntmps215
 go_wp2
 go_ret
 exact ⟨rfl,rfl⟩
theorem ldexp_odd (a:Nat) (n:Int) (i k:Bool) (o:Option Ordering) (w:World) (hO:FloatKind.f64.format.order a 0 = o) (ho:o = none ∨ o = some .lt ∨ o = some .gt) (hw:(i = true) ∨ (i = false∧k = true))
  (C1:∀ w',Calls Tryz.prog 243 #[.float .f64 a,.int .i64 0] w' fun r w''=>r = .returned (.bool i)∧w' = w'')
  (C2:∀ w',Calls Tryz.prog 244 #[.float .f64 a] w' fun r w''=>r = .returned (.bool k)∧w' = w'') :
  Calls Tryz.prog 215 #[.float .f64 a,.int .i64 n] w fun s w'=>s = .returned (.float .f64 a)∧w = w':=by
 have K1:=hide C1;have K2:=hide C2
 clear C1 C2
 rcases hw with rfl | ⟨rfl,rfl⟩
 ·rcases ho with rfl | rfl | rfl
  all_goals
   go_enter Tryz.func215,Tryz.ntmps215
   go_wp2_with fail
   refine (uH K1 _).mono ?_
   rintro e w1 ⟨rfl,rfl⟩
   go_wp2
   go_ret
   exact ⟨rfl,rfl⟩
 ·rcases ho with rfl | rfl | rfl
  all_goals
   go_enter Tryz.func215,Tryz.ntmps215
   go_wp2_with fail
   refine (uH K1 _).mono ?_
   rintro e w1 ⟨rfl,rfl⟩
   go_wp2_with fail
   refine (uH K2 _).mono ?_
   rintro e w1 ⟨rfl,rfl⟩
   go_wp2
   go_ret
   exact ⟨rfl,rfl⟩
theorem Ldexp_of (a r:Nat) (n:Int) (w:World)
  (C1:∀ w',Calls Tryz.prog 215 #[.float .f64 a,.int .i64 n] w' fun s w''=>s = .returned (.float .f64 r)∧w' = w'') :
  Calls Tryz.prog 161 #[.float .f64 a,.int .i64 n] w fun s w'=>s = .returned (.float .f64 r)∧w = w':=by
 have K1:=hide C1
 clear C1
 go_enter Tryz.func161,Tryz.ntmps161
 go_wp2_with fail
 refine (uH K1 _).mono ?_
 rintro e w1 ⟨rfl,rfl⟩
 clear K1
 go_wp2
 go_ret
 exact ⟨rfl,rfl⟩
end Go.Proofs.YtdhmglmccafbnaaGreatDoor
namespace Go.Proofs.YtdhmglmccafbnaaGreatDoor
open Go.RowKit
theorem fmul_ok (x y:Nat) (hx:x < 18446744073709551616) (hy:y < 18446744073709551616) (h:mN x y = false) (i:TypeId) (w:World) :
  (binOp .mul i (.float .f64 x) (.float .f64 y)).run Tryz.prog w = .ok (.float .f64 (mV x y)) w:=by
 have:=fmul_run i x y w
 rw [fmul_some x y hx hy h] at this
 exact this
theorem mN_fin {x y:Nat} (fx:fFin x = true) (fy:fFin y = true):mN x y = false:=by
 obtain ⟨a3,a4⟩:=fin_kind fx
 obtain ⟨b3,b4⟩:=fin_kind fy
 unfold mN
 exact decide_eq_false (by omega)
theorem rv_one:rv 4607182418800017408 = 2 ^ 1074:=by
 have:=gM_rv 4607182418800017408 (by decide)
 rw [this,show gM 4607182418800017408 = 2 ^ 52 by decide,show 4607182418800017408 / 4503599627370496 - 1 = 1022 by decide]
 exact pow_join 52 1022 1074 (by decide)
theorem wrd_fin {s:Bool} {v:Nat} (h:v < 9218868437227405312):fFin (wrd s v) = true:=(fK_rungs _).2.2.2 (by rw [fR_wrd s v (by omega)];exact h)
theorem wrd_ne0 {s:Bool} {v:Nat} (h:v < 9218868437227405312) (h0:v ≠ 0):fK (wrd s v) ≠ 0:=fun e=>h0 (by have:=(fK_zero _).1 e;rwa [fR_wrd s v (by omega)] at this)
theorem mul_one8 (s:Bool) (v:Nat) (h:v < 9218868437227405312) (h0:v ≠ 0):mV 4607182418800017408 (wrd s v) = wrd s v:=by
 have f2:fFin 4607182418800017408 = true:=by decide
 have k2:fK 4607182418800017408 ≠ 0:=by decide
 have s2:fS 4607182418800017408 = false:=by decide
 have r2:fR 4607182418800017408 = 4607182418800017408:=by decide
 obtain ⟨K,hK⟩:∃ K:Nat,K = 1074:=⟨_,rfl⟩
 have r3:=rv_one
 rw [← hK] at r3
 have hr:=rnd_rv (wrd s v) (wrd_lt s v (by omega)) (wrd_fin h)
 rw [fR_wrd s v (by omega)] at hr
 rw [(mV_fin _ _ f2 (wrd_fin h) k2 (wrd_ne0 h h0)).1,s2,r2,r3,fR_wrd s v (by omega),fS_wrd s v (by omega),Bool.false_xor,Nat.mul_comm,rnd_scale1 _ _ _ (-1074) (by omega),hr]
theorem order_mag (r c:Nat) (hr:r≤9218868437227405312) (hc:c≤9218868437227405312):Ieee.double.order r c = some (compare (rv r:Int) (rv c:Int)):=by
 have:=order_wrd false false r c hr hc
 rw [wrd_false,wrd_false] at this
 exact this
theorem order_mag_lt {r c:Nat} (hc:c≤9218868437227405312) (h:r < c):Ieee.double.order r c = some .lt:=by
 rw [order_mag r c (by omega) hc,Int.compare_eq_lt.2 (by have:=rv8_lt h;omega)]
theorem order_mag_gt {r c:Nat} (hr:r≤9218868437227405312) (h:c < r):Ieee.double.order r c = some .gt:=by
 rw [order_mag r c hr (by omega),Int.compare_eq_gt.2 (by have:=rv8_lt h;omega)]
theorem order_mag_eq (r:Nat) (hr:r≤9218868437227405312):Ieee.double.order r r = some .eq:=by
 rw [order_mag r r hr hr,Int.compare_eq_eq.2 rfl]
theorem fZ_0:fZ 0 = 0:=by decide
theorem order_0 (a:Nat) (ha:a < 18446744073709551616) (n4:fK a ≠ 4):Ieee.double.order a 0 = some (compare (fZ a) 0):=by
 have:=order_bits a 0 ha (by decide) n4 (by decide)
 rwa [fZ_0] at this
theorem order_0_sign (a:Nat) (ha:a < 18446744073709551616) (n4:fK a ≠ 4) (n0:fK a ≠ 0):Ieee.double.order a 0 = if fS a = true then some .lt else some .gt:=by
 obtain ⟨h1,h2⟩:=fZ_neg8 a n0
 rw [order_0 a ha n4,← h2]
 by_cases h:fZ a < 0
 ·rw [decide_eq_true h,if_pos rfl,Int.compare_eq_lt.2 h]
 ·rw [decide_eq_false h,if_neg (by decide),Int.compare_eq_gt.2 (by omega)]
theorem isInf8_any (a:Nat) (w:World) (ha:a < 18446744073709551616) :
  Calls Tryz.prog 243 #[.float .f64 a,.int .i64 0] w fun r w'=>r = .returned (.bool (decide (fK a = 3)))∧w = w':=by
 obtain ⟨r1,r2,r3⟩:=fK_rungs a
 have hl:=fR_lt a
 have C1:=fun w'=>mabs_any a w' ha
 by_cases h4:fK a = 4
 ·rw [decide_eq_false (by omega)]
  have e:fK (fR a) = 4:=by rw [← h4];exact fK_same (by unfold fR;omega)
  exact isInf_of a (fR a) none false w (order_nan _ _ (by omega) (by decide) (.inl e)) (.inl ⟨rfl,rfl⟩) C1
 ·have h5:fR a≤9218868437227405312:=Nat.le_of_not_lt fun h=>h4 (r1.2 h)
  by_cases h3:fK a = 3
  ·rw [decide_eq_true h3]
   exact isInf_of a (fR a) _ true w (order_mag_gt h5 (by have:=r2.1 h3;omega)) (.inr (.inr (.inr ⟨rfl,rfl⟩))) C1
  ·rw [decide_eq_false h3]
   have h6:fR a ≠ 9218868437227405312:=fun h=>h3 (r2.2 h)
   by_cases h7:fR a = 9218868437227405311
   ·rw [h7] at C1
    exact isInf_of a _ _ false w (order_mag_eq _ (by decide)) (.inr (.inr (.inl ⟨rfl,rfl⟩))) C1
   ·exact isInf_of a (fR a) _ false w (order_mag_lt (by decide) (by omega)) (.inr (.inl ⟨rfl,rfl⟩)) C1
theorem isNaN8_any (a:Nat) (w:World) (ha:a < 18446744073709551616) :
  Calls Tryz.prog 244 #[.float .f64 a] w fun r w'=>r = .returned (.bool (decide (fK a = 4)))∧w = w':=by
 by_cases h4:fK a = 4
 ·rw [decide_eq_true h4]
  exact isNaN_of a _ _ w (order_nan a a ha ha (.inl h4)) (.inl ⟨rfl,rfl⟩)
 ·rw [decide_eq_false h4]
  exact isNaN_of a _ _ w (by rw [show FloatKind.f64.format.order a a = Ieee.double.order a a from rfl,order_bits a a ha ha h4 h4,Int.compare_eq_eq.2 rfl]) (.inr ⟨rfl,rfl⟩)
theorem norm8_any (a:Nat) (ha:a < 18446744073709551616) (fa:fFin a = true) (a0:fK a ≠ 0) :
  ∃ (q:Nat) (e:Int),(∀ w,Calls Tryz.prog 245 #[.float .f64 a] w fun s w'=>s = .returned (.tuple #[.float .f64 (wrd (fS a) q),.int .i64 e])∧w = w') ∧
   -52≤e∧e≤0∧4503599627370496≤q∧q < 9218868437227405312∧∀ n:Int,rnd (rv (fR a)) (n - 1074) = rnd (rv q) (n+e - 1074):=by
 have hr:=fR_fin a fa
 have C1:=fun w'=>mabs_any a w' ha
 by_cases h:fR a < 4503599627370496
 ·have h0:fR a ≠ 0:=fun e=>a0 ((fK_zero a).2 e)
  obtain ⟨q,q1,q2,q3,q4⟩:=scale_up52 (fS a) (fR a) h0 h
  rw [b_wrd a ha] at q1
  refine ⟨q,-52,fun w=>?_,by decide,by decide,q2,q3,fun n=>by rw [q4];congr 1⟩
  refine normalize_of a (fR a) (wrd (fS a) q) (-52) _ w (order_mag_lt (by decide) h) (.inl ⟨rfl,rfl,fun i w'=>?_⟩) C1
  rw [← q1]
  exact fmul_ok a _ ha (by decide) (mN_fin fa (by decide)) i w'
 ·refine ⟨fR a,0,fun w=>?_,by decide,by decide,by omega,hr,fun n=>by congr 1;omega⟩
  rw [b_wrd a ha]
  by_cases h7:fR a = 4503599627370496
  ·rw [h7] at C1
   exact normalize_of a _ a 0 _ w (order_mag_eq _ (by decide)) (.inr (.inl ⟨rfl,rfl,rfl⟩)) C1
  ·exact normalize_of a (fR a) a 0 _ w (order_mag_gt (by omega) (by omega)) (.inr (.inr ⟨rfl,rfl,rfl⟩)) C1
theorem ldexp_fin (a:Nat) (n:Int) (w:World) (ha:a < 18446744073709551616) (fa:fFin a = true) (a0:fK a ≠ 0) (hn:-5000≤n∧n≤5000) :
  Calls Tryz.prog 215 #[.float .f64 a,.int .i64 n] w fun r w'=>r = .returned (.float .f64 (wrd (fS a) (rnd (rv (fR a)) (n - 1074))))∧w = w':=by
 obtain ⟨q,e,C3,e1,e2,q1,q2,hN⟩:=norm8_any a ha fa a0
 obtain ⟨a3,a4⟩:=fin_kind fa
 have C1:=fun w'=>isInf8_any a w' ha
 rw [decide_eq_false a3] at C1
 have C2:=fun w'=>isNaN8_any a w' ha
 rw [decide_eq_false a4] at C2
 rw [hN n]
 obtain ⟨s,hs⟩:∃ s,s = fS a:=⟨_,rfl⟩
 have hO:FloatKind.f64.format.order a 0 = (if s = true then some .lt else some .gt):=by rw [hs];exact order_0_sign a ha a4 a0
 have ho:(if s = true then some Ordering.lt else some Ordering.gt) = some .lt ∨ (if s = true then some Ordering.lt else some Ordering.gt) = some .gt:=by cases s <;> simp
 rw [← hs] at C3 ⊢
 obtain ⟨x,hx⟩:∃ x,x = wrd s q:=⟨_,rfl⟩
 have hxl:x < 18446744073709551616:=by rw [hx];exact wrd_lt s q (by omega)
 have xR:fR x = q:=by rw [hx];exact fR_wrd s q (by omega)
 have xS:fS x = s:=by rw [hx];exact fS_wrd s q (by omega)
 have xf:fFin x = true:=by rw [hx];exact wrd_fin q2
 have x0:fK x ≠ 0:=by rw [hx];exact wrd_ne0 q2 (by omega)
 have x4:=(fin_kind xf).2
 rw [← hx] at C3
 have hp:fP x = q / 4503599627370496:=by rw [← xR];rfl
 have hA:bits .and .i64 ((x:Int) / 4503599627370496) 2047 = ((fP x:Nat):Int):=by
  have:=and_2047 (x / 4503599627370496) (by omega)
  rw [show ((x:Int) / 4503599627370496) = ((x / 4503599627370496:Nat):Int) by omega]
  refine this.trans ?_
  unfold fP
  congr 1
  omega
 have hB:=fun W=>tobits5 x W
 obtain ⟨E,hE⟩:∃ E:Int,n+e+((fP x:Int) - 1023) = E:=⟨_,rfl⟩
 have hpl:=fP_lt x
 have hS:=scale_normal q (n+e) E q1 (by rw [← hE,hp];omega)
 rw [hS]
 have hq:(x:Int) / 4503599627370496 < 4096:=by omega
 have hqm:q % 4503599627370496 < 4503599627370496:=Nat.mod_lt _ (by decide)
 rcases (show E < -1075 ∨ 1023 < E ∨ (-1022≤E∧E≤1023) ∨ (-1075≤E∧E < -1022) by omega) with h | h | h | h
 ·rw [scale_low q E h]
  have C4:=fun w'=>copysign0_any x w' hxl
  rw [xS] at C4
  exact ldexp_low a x (wrd s 0) (fP x) n e E _ w hO ho hpl hn ⟨e1,e2⟩ hq hA hE h C1 C2 C3 C4 hB
 ·rw [scale_high q E h]
  have hO2:FloatKind.f64.format.order x 0 = (if s = true then some .lt else some .gt):=by rw [← xS];exact order_0_sign x hxl x4 x0
  refine ldexp_high a x (wrd s 9218868437227405312) (fP x) n e E _ _ w hO ho hO2 ?_ hpl hn ⟨e1,e2⟩ hq hA hE h C1 C2 C3 hB
  cases s
  ·exact .inr ⟨rfl,rfl⟩
  ·exact .inl ⟨rfl,rfl⟩
 ·rw [scale_mid q E h.1 h.2]
  obtain ⟨k,hk⟩:∃ k:Nat,k = (E+1023).toNat:=⟨_,rfl⟩
  have hk2:(E+1023) * 4503599627370496 = ((k * 4503599627370496:Nat):Int):=by omega
  rw [← hk]
  have hV:=or_mid s (q % 4503599627370496) k hqm (by omega)
  have hv:q % 4503599627370496+k * 4503599627370496 < 9218868437227405312:=by omega
  have hv0:q % 4503599627370496+k * 4503599627370496 ≠ 0:=by omega
  have hY:=andNot_mid s q (by omega)
  rw [← hx] at hY
  refine ldexp_mid a x _ _ _ (fP x) n e E _ w hO ho hpl hn ⟨e1,e2⟩ hq hA hE h.1 h.2 hY (by rw [hk2];exact hV) (fun W=>frombits5 _ W) (fun i w'=>?_) C1 C2 C3 hB
  have:=fmul_ok 4607182418800017408 (wrd s (q % 4503599627370496+k * 4503599627370496)) (by decide) (wrd_lt _ _ (by omega)) (mN_fin (by decide) (wrd_fin hv)) i w'
  rw [mul_one8 s _ hv hv0] at this
  exact this
 ·obtain ⟨k,hk⟩:∃ k:Nat,k = (E+53+1023).toNat:=⟨_,rfl⟩
  have hk2:(E+53+1023) * 4503599627370496 = ((k * 4503599627370496:Nat):Int):=by omega
  have hZ:=scale_sub s q E h.1 h.2
  rw [← hk] at hZ
  have hV:=or_mid s (q % 4503599627370496) k hqm (by omega)
  have hv:q % 4503599627370496+k * 4503599627370496 < 9218868437227405312:=by omega
  have hY:=andNot_mid s q (by omega)
  rw [← hx] at hY
  refine ldexp_sub a x _ _ _ (fP x) n e E _ w hO ho hpl hn ⟨e1,e2⟩ hq hA hE h.1 h.2 hY (by rw [hk2];exact hV) (fun W=>frombits5 _ W) (fun i w'=>?_) C1 C2 C3 hB
  have:=fmul_ok 4368491638549381120 (wrd s (q % 4503599627370496+k * 4503599627370496)) (by decide) (wrd_lt _ _ (by omega)) (mN_fin (by decide) (wrd_fin hv)) i w'
  rw [(mul_comm6 _ _).1,hZ] at this
  exact this
def lV (a:Nat) (n:Int):Nat:=if fK a = 4 then a else xV a n
theorem Ldexp_any (a:Nat) (n:Int) (w:World) (ha:a < 18446744073709551616) (hn:-5000≤n∧n≤5000) :
  Calls Tryz.prog 161 #[.float .f64 a,.int .i64 n] w fun r w'=>r = .returned (.float .f64 (lV a n))∧w = w':=by
 refine Ldexp_of a _ n w fun w'=>?_
 have C1:=fun w'=>isInf8_any a w' ha
 have C2:=fun w'=>isNaN8_any a w' ha
 unfold lV
 by_cases a4:fK a = 4
 ·rw [if_pos a4]
  rw [decide_eq_false (show ¬ fK a = 3 by omega)] at C1
  rw [decide_eq_true a4] at C2
  exact ldexp_odd a n false true _ w' (order_nan a 0 ha (by decide) (.inl a4)) (.inl rfl) (.inr ⟨rfl,rfl⟩) C1 C2
 rw [if_neg a4]
 unfold xV
 rw [if_neg a4]
 by_cases a3:fK a = 3
 ·rw [if_pos (Or.inl a3)]
  rw [decide_eq_true a3] at C1
  exact ldexp_odd a n true _ _ w' (order_0_sign a ha a4 (by omega)) (by cases fS a <;> simp) (.inl rfl) C1 C2
 by_cases a0:fK a = 0
 ·rw [if_pos (Or.inr a0)]
  have hz:fZ a = 0:=by
   have:=fZ_abs a
   rw [(fK_zero a).1 a0,rv_zero] at this
   omega
  exact ldexp_zero a n w' (by rw [show FloatKind.f64.format.order a 0 = Ieee.double.order a 0 from rfl,order_0 a ha a4,Int.compare_eq_eq.2 hz])
 ·rw [if_neg (by omega)]
  have fa:=fin_of a a3 a4
  obtain ⟨β,x1,x2,x3,x4⟩:=odd_mag a ha fa a0
  have e3:rnd (fD a).natAbs (fX a+n) = rnd (rv (fR a)) (n - 1074):=by
   rw [x2,rnd_scale];congr 1;omega
  rw [e3]
  exact ldexp_fin a n w' ha fa a0 hn
theorem canon_lV (a:Nat) (n:Int) (w:World) (ha:a < 18446744073709551616) :
  Calls Tryz.prog 108 #[.int .u64 (lV a n:Nat)] w fun r w'=>r = .returned (.int .u64 (xV a n:Nat))∧w = w':=by
 unfold lV
 by_cases a4:fK a = 4
 ·rw [if_pos a4]
  have:=canon_any a w ha
  rw [if_pos a4] at this
  rw [show xV a n = 9221120237041090560 by unfold xV;rw [if_pos a4]]
  exact this
 ·rw [if_neg a4]
  have:=canon_any (xV a n) w (xV_lt a n ha)
  have h:fK (xV a n) ≠ 4:=by
   unfold xV
   rw [if_neg a4]
   split
   ·exact a4
   ·exact wrd_kind _ _ (rnd_le _ _)
  rw [if_neg h] at this
  exact this
end Go.Proofs.YtdhmglmccafbnaaGreatDoor
namespace Go.Proofs.YtdhmglmccafbnaaGreatDoor
open Go.RowKit
theorem cutE_mul (v u:Nat):2 * (cutE v u * 2 ^ u)≤2 * v+2 ^ u∧2 * v≤2 * (cutE v u * 2 ^ u)+2 ^ u∧(v % 2 ^ u = 0→cutE v u * 2 ^ u = v):=by
 have hp:0 < 2 ^ u:=Nat.two_pow_pos _
 have h1:=Nat.div_add_mod v (2 ^ u)
 have h2:=Nat.mod_lt v hp
 rw [Nat.mul_comm] at h1
 unfold cutE
 generalize v / 2 ^ u = q at *
 generalize v % 2 ^ u = r at *
 generalize (2:Nat) ^ u = p at *
 split
 ·rw [Nat.add_mul,Nat.one_mul]
  exact ⟨by omega,by omega,by omega⟩
 ·rw [Nat.add_zero]
  exact ⟨by omega,by omega,by omega⟩
theorem near_digits (T M c d:Nat) (hc:c = 2 * d) (hd:0 < d) (h1:(2 * M - 1) * (2 * M - 1) < 4 * T) (h2:4 * T < (2 * M+1) * (2 * M+1)) :
  (2 * M - 1) * c < rS (T * (c * c))∧rS (T * (c * c)) < (2 * M+1) * c:=by
 obtain ⟨g1,g2⟩:=isq_spec (T * (c * c))
 have hcc:0 < c * c:=Nat.mul_pos (by omega) (by omega)
 have k1:(2 * M - 1) * (2 * M - 1) * (c * c) < 4 * T * (c * c):=(Nat.mul_lt_mul_right hcc).2 h1
 have k2:4 * T * (c * c) < (2 * M+1) * (2 * M+1) * (c * c):=(Nat.mul_lt_mul_right hcc).2 h2
 have k3:4 * T * (c * c) = 4 * (T * (c * c)):=Nat.mul_assoc _ _ _
 rw [k3] at k1 k2
 rw [← sq_mul] at k1 k2
 have ev1:(2 * M - 1) * c = 2 * ((2 * M - 1) * d):=by rw [hc];ac_rfl
 have ev2:(2 * M+1) * c = 2 * ((2 * M+1) * d):=by rw [hc];ac_rfl
 unfold rS
 generalize T * (c * c) = N at *
 generalize isq N = Q at *
 have q4:∀ x:Nat,2 * x * (2 * x) = 4 * (x * x):=fun x=>by rw [show (4:Nat) = 2 * 2 by decide];ac_rfl
 have i1:(2 * M - 1) * c < 2 * (Q+1):=sq_lt_iff.1 (by rw [q4 (Q+1)];omega)
 have i2:2 * Q < (2 * M+1) * c:=sq_lt_iff.1 (by rw [q4 Q];omega)
 split
 ·rename_i h
  have i3:(2 * M - 1) * c < 2 * Q:=sq_lt_iff.1 (by rw [q4 Q];omega)
  exact ⟨by omega,by omega⟩
 ·exact ⟨by omega,by omega⟩
theorem near_root (T M:Nat) (e:Nat) (hM1:4503599627370496≤M) (hM2:M < 9007199254740992) (he:1≤e) (he2:e≤1900)
  (h1:(2 * M - 1) * (2 * M - 1) < 4 * T) (h2:4 * T < (2 * M+1) * (2 * M+1)) (h3:M = 4503599627370496→rS (T * (1024 * 1024)) = 9223372036854775808) :
  rnd (rS (T * (1024 * 1024))) ((e:Int) - 1085) = M+e * 4503599627370496:=by
 obtain ⟨w1,w2⟩:=near_digits T M 1024 512 rfl (by decide) h1 h2
 have w3:9223372036854775808≤rS (T * (1024 * 1024)):=by
  by_cases hm:M = 4503599627370496
  ·rw [h3 hm];exact Nat.le_refl _
  ·omega
 generalize rS (T * (1024 * 1024)) = W at *
 clear h1 h2 h3
 have hb:bl W = 64:=bl_of (by decide) (by have:(2:Nat) ^ (64 - 1) = 9223372036854775808:=(by decide);omega) (by have:(2:Nat) ^ 64 = 18446744073709551616:=(by decide);omega)
 have hl:lastE W ((e:Int) - 1085) = (e:Int) - 1074:=by unfold lastE;rw [hb];omega
 rw [rnd_fin W _ (by omega) (by rw [hb];omega),hl]
 unfold rndM
 rw [hl,show (e:Int) - 1085 - ((e:Int) - 1074) = -((11:Nat):Int) by omega,mS_down _ _ (by decide)]
 have hc:cutE W 11 = M:=by
  unfold cutE
  rw [show (2:Nat) ^ 11 = 2048 by decide]
  by_cases hh:M * 2048≤W
  ·have a1:W / 2048 = M:=by omega
   rw [a1,if_neg (by omega),Nat.add_zero]
  ·have a1:W / 2048 = M - 1:=by omega
   rw [a1,if_pos (by omega)]
   omega
 rw [hc,show ((e:Int) - 1074+1074).toNat = e by omega]
theorem rS_of {N q:Nat} (h:q * q = N):rS N = 2 * q:=by
 have h1:isq N = q:=isq_unique (Nat.le_of_eq h) (by have:=sq_succ q;omega)
 unfold rS
 rw [h1,if_pos h,Nat.add_zero]
theorem rS_one {T:Nat} (h:T = 4503599627370496 * 4503599627370496):rS (T * (1024 * 1024)) = 9223372036854775808 :=
 (rS_of (q:=4611686018427387904) (by rw [h])).trans (by decide)
theorem sq_104 {M:Nat} (h:4503599627370496≤M):20282409603651670423947251286016≤M * M:=Nat.le_trans (by decide) (sq_le h)
theorem big_sqL {T:Nat} (h:81129638414606681695789005144064≤T * 1048576):9007199254740992≤isq (T * 2 ^ 20):=by
 refine big_sq ?_
 have e1:(2:Nat) ^ 106 = 81129638414606681695789005144064:=by decide
 have e2:(2:Nat) ^ 20 = 1048576:=by decide
 rw [e1,e2]
 exact h
theorem t106 {T v p:Nat} (h1:20282409603651670423947251286016≤v) (h2:2 * v≤2 * T+p) (hp:p≤9007199254740992):81129638414606681695789005144064≤T * 1048576:=by omega
theorem bl_105 (M:Nat) (hM1:4503599627370496≤M) (hM2:M < 9007199254740992):bl (M * M) = 105 ∨ (bl (M * M) = 106∧M ≠ 4503599627370496):=by
 have h1:=sq_le hM1
 have h2:=sq_lt hM2
 have e1:(4503599627370496:Nat) * 4503599627370496 = 2 ^ 104:=by decide
 have e2:(9007199254740992:Nat) * 9007199254740992 = 2 ^ 106:=by decide
 rw [e1] at h1
 rw [e2] at h2
 rcases Nat.lt_or_ge (M * M) (2 ^ 105) with h | h
 ·exact .inl (bl_of (by decide) h1 h)
 ·refine .inr ⟨bl_of (by decide) h h2,fun hm=>?_⟩
  rw [hm,e1] at h
  exact absurd h (by decide)
theorem squares7 (a:Nat) (h1:600≤fP a) (h2:fP a≤1400):sV (mV a a) = fR a:=by
 have hP:fP a = fR a / 4503599627370496:=rfl
 have hF:=Nat.div_add_mod (fR a) 4503599627370496
 have hFl:=Nat.mod_lt (fR a) (show 0 < 4503599627370496 by decide)
 obtain ⟨M,hM⟩:∃ M,M = 4503599627370496+fR a % 4503599627370496:=⟨_,rfl⟩
 obtain ⟨e,he⟩:∃ e,fP a = e+1:=⟨fP a - 1,by omega⟩
 have hr:fR a = M+e * 4503599627370496:=by omega
 have hrv:rv (fR a) = M * 2 ^ e:=by rw [hr];exact rv_of M e (by omega) (fun _=>by omega)
 have fa:fFin a = true:=(fK_rungs a).2.2.2 (by omega)
 have k3:fK a ≠ 3∧fK a ≠ 4:=fin_kind fa
 have k0:fK a ≠ 0:=fun h=>by have:=(fK_zero a).1 h;omega
 -- the square,rounded
 have hv:mV a a = rnd (M * M) (2 * (e:Int) - 2148):=by
  rw [(mV_fin a a fa fa k0 k0).1,Bool.xor_self,wrd_false,hrv,show M * 2 ^ e * (M * 2 ^ e) = M * M * 2 ^ (e+e) by rw [Nat.pow_add];ac_rfl,rnd_scale]
  congr 1
  omega
 have hbl:=bl_105 M (by omega) (by omega)
 have hne:M * M ≠ 0:=Nat.mul_ne_zero (by omega) (by omega)
 obtain ⟨u,hu⟩:∃ u,bl (M * M) = u+53:=⟨bl (M * M) - 53,by omega⟩
 have hl:lastE (M * M) (2 * (e:Int) - 2148) = (u:Int)+2 * e - 2148:=by unfold lastE;rw [hu];omega
 have hmb:=rndM_bounds (M * M) (2 * (e:Int) - 2148) hne
 have hMd:rndM (M * M) (2 * (e:Int) - 2148) = cutE (M * M) u:=by
  unfold rndM
  rw [hl,show 2 * (e:Int) - 2148 - ((u:Int)+2 * e - 2148) = -((u:Nat):Int) by omega,mS_down _ _ (by omega)]
 have hs:mV a a = cutE (M * M) u+(u+2 * e - 1074) * 4503599627370496:=by
  rw [hv,rnd_fin _ _ hne (by rw [hu];omega),hl,hMd,show ((u:Int)+2 * e - 2148+1074).toNat = u+2 * e - 1074 by omega]
 rw [hMd] at hmb
 have hlow:=hmb.2.1 (by rw [hl];omega)
 have hrs:rv (mV a a) = cutE (M * M) u * 2 ^ (u+2 * e - 1074):=by rw [hs];exact rv_of _ _ hmb.1 (fun _=>hlow)
 have hslt:mV a a < 9218868437227405312:=by rw [hs];have:=hmb.1;omega
 have fRs:fR (mV a a) = mV a a:=by unfold fR;omega
 have s0:fK (mV a a) ≠ 0:=fun h=>by
  have:=(fK_zero _).1 h
  rw [fRs,hs] at this
  omega
 have s4:fK (mV a a) ≠ 4:=fun h=>by
  have:=(fK_rungs _).1.1 h
  omega
 have sS:fS (mV a a) = false:=decide_eq_false (by omega)
 have hsv:sV (mV a a) = tV (mV a a):=by
  unfold sV
  rw [if_neg s4,if_neg (by rintro (h | h);exact s0 h;omega),if_neg (by rw [sS];decide)]
 obtain ⟨c1,c2,c3⟩:=cutE_mul (M * M) u
 have hpu:(u = 52∧bl (M * M) = 105) ∨ (u = 53∧M ≠ 4503599627370496):=by omega
 have p52':=p52
 have p53':=p53
 obtain ⟨T,hT⟩:∃ T,T = cutE (M * M) u * 2 ^ u:=⟨_,rfl⟩
 rw [← hT] at c1 c2 c3
 have t3:M = 4503599627370496→rS (T * (1024 * 1024)) = 9223372036854775808:=fun hm=>by
  rcases hpu with ⟨q,_⟩ | ⟨_,q⟩
  ·have hT2:T = 4503599627370496 * 4503599627370496:=by
    rw [c3 (by rw [q,hm]),hm]
   exact rS_one hT2
  ·exact absurd hm q
 have sq1:(2 * M - 1) * (2 * M - 1)+4 * M = 4 * (M * M)+1:=by
  obtain ⟨x,hx⟩:∃ x,M = x+1:=⟨M - 1,by omega⟩
  rw [hx,show 2 * (x+1) - 1 = 2 * x+1 by omega,sq_succ,sq_succ]
  have:2 * x * (2 * x) = 4 * (x * x):=by rw [show (4:Nat) = 2 * 2 by decide];ac_rfl
  omega
 have sq2:(2 * M+1) * (2 * M+1) = 4 * (M * M)+4 * M+1:=by
  rw [sq_succ]
  have:2 * M * (2 * M) = 4 * (M * M):=by rw [show (4:Nat) = 2 * 2 by decide];ac_rfl
  omega
 have hb1:(2 * M - 1) * (2 * M - 1) < 4 * T∧4 * T < (2 * M+1) * (2 * M+1):=by
  rcases hpu with ⟨q,_⟩ | ⟨q,q2⟩
  ·rw [q,p52'] at c1 c2
   omega
  ·rw [q,p53'] at c1 c2
   omega
 have hroot:=near_root T M e (by omega) (by omega) (by omega) (by omega) hb1.1 hb1.2 t3
 -- as the root of that number
 have hk:T * 2 ^ (2 * e - 1074) = rv (fR (mV a a)):=by
  rw [fRs,hrs,hT,Nat.mul_assoc,← Nat.pow_add,show u+(2 * e - 1074) = u+2 * e - 1074 by omega]
 have hTb:9007199254740992≤isq (T * 2 ^ 20):=by
  refine big_sqL (t106 (sq_104 (show 4503599627370496≤M by omega)) c2 ?_)
  rcases hpu with ⟨q,_⟩ | ⟨q,_⟩
  ·rw [q,p52'];decide
  ·rw [q,p53'];exact Nat.le_refl _
 rw [show (1024:Nat) * 1024 = 2 ^ 20 by decide] at hroot
 have:=(root_any (mV a a) T (2 * e - 1074) 20 ((e:Int) - 1084) s0 hk (by omega) hTb).1
 rw [hsv,← this,show (e:Int) - 1084 - 1 = (e:Int) - 1085 by omega,hroot,hr]
end Go.Proofs.YtdhmglmccafbnaaGreatDoor
