/- Part 23 of the texts. -/
import Derived.Test.YtnnfjeieennffaaGreatDoorPartf22
import Derived.Test.YtnnfjeieennffaaGreatDoorPartf17
import Derived.Test.YtnnfjeieennffaaGreatDoorPartf21
import Derived.Test.YtnnfjeieennffaaGreatDoorPartf09
import Derived.Deep.RegionHeld3
import Derived.Laws.Cover2
import Derived.Laws.Externs
import Derived.Test.YtnnfjeieennffaaGreatDoorPartf04
import Derived.Laws.FloatArith
import Derived.Laws.BitsAllLaws
import Derived.Test.YtnnfjeieennffaaGreatDoorPartf11
import Derived.Test.YtnnfjeieennffaaGreatDoorPartf20
set_option maxHeartbeats 4000000
set_option maxRecDepth 20000
namespace Go.Proofs.YtnnfjeieennffaaGreatDoor
open Go.RowKit
theorem IsDy.limbs {w:World} {n:Bool} {a:Option Addr} {l c:Nat} {X m Y:Int} (h:IsDy w (.agg #[.bool n,.slice a l c,.int .i64 X]) m Y) (hm:m.natAbs < TOP) :
  ∃ L,l = L.length∧LimbsAt w a c L∧rightB false L = true∧val L = m.natAbs∧L.length≤512:=by
 obtain ⟨n',a',c',L,e1,h1,h2,h3,h4,h5⟩:=h.right hm
 simp only [Value.agg.injEq,Array.mk.injEq,List.cons.injEq,Value.bool.injEq,Value.slice.injEq,and_true] at e1
 obtain ⟨rfl,⟨rfl,e2,rfl⟩,_⟩:=e1
 have hr:rightB false L = true:=by
  simp only [rightB,Bool.and_eq_true,decide_eq_true_eq,Bool.not_eq_true',Bool.and_eq_false_iff,decide_eq_false_iff_not,Bool.or_eq_true] at h2 ⊢
  exact ⟨⟨h2.1.1,Or.inr trivial⟩,h2.2⟩
 exact ⟨L,e2,h1,hr,by rw [← h3,natAbs_sval],h4⟩
theorem small6 {B:Nat} {w:World} {v:Value} {x:Int} (hv:IsNum B w v x) (h0:-9223372036854775808≤x) (h1:x≤9223372036854775807) :
  Calls Tryz.prog 211 #[v] w fun e w'=>e = .returned (.tuple #[.int .i64 x,.int .i64 0])∧Below w.heap.size w w':=by
 obtain ⟨na,ao,ca,A,rfl,a1,a2,a3,a4⟩:=hv.right (small_TOP _ (by omega))
 have:=small_any na ao ca A w a1 (by omega)
 have hf:fits64 x = true:=by unfold fits64;rw [decide_eq_true (by omega)]
 rwa [show smV na A = x by unfold smV;rw [a2,a3,hf];rfl,show smE na A = 0 by unfold smE;rw [a2,a3,hf];rfl] at this
theorem sizeOf_any (b:Nat) (w:World) (hb:b < 18446744073709551616) (hf:fFin b = true) (h0:fK b ≠ 0) (hT:Tab w) :
  Calls Tryz.prog 204 #[.int .u64 b] w fun r w'=>r = .returned (.tuple #[.int .i64 (dS b:Nat),.int .i64 (dT b)])∧Below w.heap.size w w':=by
 obtain ⟨x1,x2,x3,x4,x5,x6,x7,x8⟩:=dS_facts b hb hf h0
 have hm:(fD b).natAbs < TOP:=small_TOP _ (by omega)
 have hS:(dS b:Int) = ((fD b).natAbs * 2 ^ (53 - (bl (fD b).natAbs:Int)).toNat:Nat):=by
  unfold dS
  rw [show (53 - (bl (fD b).natAbs:Int)).toNat = 53 - bl (fD b).natAbs by omega]
 refine sizeOf_ways b (fD b) (fX b) (dS b:Nat) (bl (fD b).natAbs:Nat) (dT b) w (by omega) (fun w' h=>value_some b w' hb hf (hT.all h)) ?_ ?_ ?_ ?_
 ·intro w' n a l c h
  obtain ⟨L,rfl,h1,h2,h3,h4⟩:=h.limbs hm
  have:=len_any false a c L w' h1 (by omega)
  rwa [lenL_bl h1.2.1 h2,h3] at this
 ·intro w' n a l c h
  obtain ⟨L,rfl,h1,h2,h3,h4⟩:=h.limbs hm
  have:=shift_any false a c L (53 - (bl (fD b).natAbs:Int)) w' h1 (by omega) (by omega)
  have hV:shV false L (53 - (bl (fD b).natAbs:Int)) = (dS b:Int):=by
   unfold shV
   rw [if_pos (by omega),h3,hS];rfl
  have hok:shOk false L (53 - (bl (fD b).natAbs:Int)) = true:=by unfold shOk;rw [h2,decide_eq_true (by omega)];rfl
  have hz:((dS b:Nat):Int).natAbs < TOP:=small_TOP _ (by omega)
  rwa [show shE false L (53 - (bl (fD b).natAbs:Int)) = 0 by unfold shE;rw [hok,if_pos rfl,hV,errOf_small _ hz],show shN false L (53 - (bl (fD b).natAbs:Int)) = (dS b:Nat) by unfold shN;rw [hok,if_pos rfl,hV,numOf_small _ hz]] at this
 ·intro B w' v h
  exact small6 h (by omega) (by omega)
 ·intro w' n a l c h
  obtain ⟨L,rfl,h1,h2,h3,h4⟩:=h.limbs hm
  have:=dtop_any false a c L (fX b) w' h1 (by omega)
  rwa [lenL_bl h1.2.1 h2,h3,wrap_small _ (by omega)] at this
theorem divFinite_n (a b:Nat) (x y tx ty q E M X fl:Int) (w:World) (r o:Nat) (ht:-3000≤tx∧tx≤3000∧-3000≤ty∧ty≤3000) (hE:E = tx - ty - 55)
  (C1:∀ w',Below w.heap.size w w'→Calls Tryz.prog 204 #[.int .u64 a] w' fun r w''=>r = .returned (.tuple #[.int .i64 x,.int .i64 tx])∧Below w'.heap.size w' w'')
  (C2:∀ w',Below w.heap.size w w'→Calls Tryz.prog 204 #[.int .u64 b] w' fun r w''=>r = .returned (.tuple #[.int .i64 y,.int .i64 ty])∧Below w'.heap.size w' w'')
  (C3:∀ w',Calls Tryz.prog 205 #[.int .i64 x,.int .i64 y] w' fun r w''=>r = .returned (.int .i64 q)∧w' = w'')
  (C4:∀ w',Calls Tryz.prog 181 #[.int .i64 q] w' fun r w''=>∃ v,r = .returned v∧IsNum w'.heap.size w'' v q∧Below w'.heap.size w' w'')
  (C5:∀ B w' v,Below w.heap.size w w'→IsNum B w' v q→Calls Tryz.prog 180 #[v,.int .i64 E] w' fun r w''=>DyR w'' r 0 M X∧Below w'.heap.size w' w'')
  (C6:∀ w' v,Below w.heap.size w w'→IsDy w' v M X→Calls Tryz.prog 158 #[v] w' fun s w''=>s = .returned (.tuple #[.int .u64 (r:Nat),.int .u8 fl,.int .i64 0])∧Below w'.heap.size w' w'')
  (C7:∀ w',Calls Tryz.prog 191 #[.int .u64 (r:Nat),.int .u64 a,.int .u64 b] w' fun s w''=>s = .returned (.int .u64 (o:Nat))∧Below w'.heap.size w' w'') :
  Calls Tryz.prog 192 #[.int .u64 a,.int .u64 b] w fun s w'=>s = .returned (.tuple #[.int .u64 (o:Nat),.int .u8 fl])∧Below w.heap.size w w':=by
 have K1:=hide C1;have K2:=hide C2;have K3:=hide C3;have K4:=hide C4;have K5:=hide C5;have K6:=hide C6;have K7:=hide C7
 clear C1 C2 C3 C4 C5 C6 C7
 have e1:=wrap_small (tx - ty) (by omega)
 have e2:=wrap_small (tx - ty - 55) (by omega)
 rw [← hE] at e2
 go_enter Tryz.func192,Tryz.ntmps192
 go_wp2_with fail
 refine (uH K1 _ (Below.refl _ _)).mono ?_
 rintro e w1 ⟨rfl,hb1⟩
 have B1:=hide hb1
 clear hb1 K1
 go_wp2_with fail
 refine (uH K2 _ (uH B1)).mono ?_
 rintro e w2 ⟨rfl,hb1⟩
 have B2:=hide ((uH B1).trans (hb1.mono (uH B1).size))
 clear hb1 K2 B1
 go_wp2_with fail
 refine (uH K3 _).mono ?_
 rintro e wk ⟨rfl,rfl⟩
 go_wp2_with fail
 refine (uH K4 _).mono ?_
 rintro e w3 ⟨v,rfl,⟨n3,a3,c3,L3,rfl,i3⟩,hb1⟩
 have B3:=hide ((uH B2).trans (hb1.mono (uH B2).size))
 have I3:=hide (show IsNum w2.heap.size w3 (.agg #[.bool n3,.slice a3 L3.length c3]) q from ⟨n3,a3,c3,L3,rfl,i3⟩)
 clear hb1 K3 K4 B2 i3
 generalize L3.length = l3 at *
 subst hE
 go_wp2_with fail
 refine (uH K5 _ _ _ (uH B3) (uH I3)).mono ?_
 rintro e w4 ⟨⟨v,rfl,hv⟩,hb1⟩
 obtain ⟨n1,a1,c1,L1,rfl,i1⟩:=hv
 have hb1a:Below w4.heap.size w4 (w4.alloc (.cells #[.bool n1,.slice a1 L1.length c1,.int .i64 X] 52)):=(Below.refl _ _).alloc (Nat.le_refl _) _
 have HX:=hide ((show IsDy w4 (.agg #[.bool n1,.slice a1 L1.length c1,.int .i64 X]) M X from ⟨n1,a1,c1,L1,rfl,i1⟩).below hb1a)
 have B4:=hide ((uH B3).trans ((hb1.trans (hb1a.mono hb1.size)).mono (uH B3).size))
 have x3:=Box3.new w4 (.bool n1) (.slice a1 L1.length c1) (.int .i64 X)
 have y0:=x3.c0;have y1:=x3.c1;have y2:=x3.c2
 clear i1 hb1 hb1a K5 B3 x3 I3
 generalize L1.length = l1 at *
 go_wp2_with fail
 refine (uH K6 _ _ (uH B4) (uH HX)).mono ?_
 rintro e w5 ⟨rfl,hb1⟩
 have B5:=hide ((uH B4).trans (hb1.mono (uH B4).size))
 clear hb1 K6 B4 y0 y1 y2 HX
 go_wp2_with fail
 refine (uH K7 _).mono ?_
 rintro e w6 ⟨rfl,hb1⟩
 have B6:=hide ((uH B5).trans (hb1.mono (uH B5).size))
 clear hb1 K7 B5
 go_wp2
 exact bodyPost_ret (v:=.tuple #[.int .u64 o,.int .u8 fl]) (by simp [results,Tryz.results192,go_sem]) rfl ⟨rfl,uH B6⟩
theorem lt57 {S:Nat} (h:S < 144115188075855872):S < 2 ^ 57:=by
 have:(2:Nat) ^ 57 = 144115188075855872:=by decide
 omega
theorem divFinite_of (a b S sx sy r:Nat) (tx ty fl:Int) (w:World) (ha:a < 18446744073709551616) (hb:b < 18446744073709551616) (hr:r≤9218868437227405312)
  (ht:-1100≤tx∧tx≤1100∧-1100≤ty∧ty≤1100) (s1:S ≠ 0) (s2:S < 144115188075855872)
  (q1:rnd S (tx - ty - 55) = r) (q2:rflag (oM (S:Nat)).natAbs (oE (S:Nat) (tx - ty - 55)) = fl) (hT:Tab w)
  (C1:∀ w',Below w.heap.size w w'→Calls Tryz.prog 204 #[.int .u64 a] w' fun r w''=>r = .returned (.tuple #[.int .i64 (sx:Nat),.int .i64 tx])∧Below w'.heap.size w' w'')
  (C2:∀ w',Below w.heap.size w w'→Calls Tryz.prog 204 #[.int .u64 b] w' fun r w''=>r = .returned (.tuple #[.int .i64 (sy:Nat),.int .i64 ty])∧Below w'.heap.size w' w'')
  (C3:∀ w',Calls Tryz.prog 205 #[.int .i64 (sx:Nat),.int .i64 (sy:Nat)] w' fun r w''=>r = .returned (.int .i64 (S:Nat))∧w' = w'') :
  Calls Tryz.prog 192 #[.int .u64 a,.int .u64 b] w fun s w'=>s = .returned (.tuple #[.int .u64 (wrd (fS a ^^ fS b) r:Nat),.int .u8 fl])∧Below w.heap.size w w':=by
 have hz:((S:Nat):Int).natAbs < TOP:=small_TOP _ (by omega)
 have hz0:((S:Nat):Int) ≠ 0:=by omega
 have htz:tz ((S:Nat):Int).natAbs < 57:=tz_lt _ 57 (by omega) (by rw [Int.natAbs_natCast];exact lt57 s2)
 obtain ⟨E,hE⟩:∃ E,E = tx - ty - 55:=⟨_,rfl⟩
 rw [← hE] at q1 q2
 have hE2:-2300≤E∧E≤2300:=by omega
 have hok:dOk (S:Nat) E = true:=by
  unfold dOk
  rw [decide_eq_true (show -32768≤E∧E≤32768 by omega),decide_eq_true (show -16384≤E+(tz ((S:Nat):Int).natAbs:Int)∧E+(tz ((S:Nat):Int).natAbs:Int)≤16384 by omega),Bool.or_true]
  rfl
 have hRt:dRt (oM (S:Nat)) (oE (S:Nat) E) = true:=by
  unfold dRt
  rw [if_neg (oM_ne _ hz0).1,oE_ne _ _ hz0,decide_eq_true (oM_ne _ hz0).2,decide_eq_true (by omega)]
  rfl
 have hle:(oM (S:Nat)).natAbs < TOP:=Nat.lt_of_le_of_lt (oM_le _) hz
 have C6:∀ w' v,Below w.heap.size w w'→IsDy w' v (oM (S:Nat)) (oE (S:Nat) E)→_:=fun w' v h hv=>round_dy hv hle hRt (hT.all h)
 rw [(rnd_odd ((S:Nat):Int) E).1,oM_sign,decide_eq_false (show ¬ ((S:Nat):Int) < 0 by omega),wrd_false,Int.natAbs_natCast,q1,q2] at C6
 refine divFinite_n a b (sx:Nat) (sy:Nat) tx ty (S:Nat) E _ _ _ w _ _ (by omega) hE C1 C2 C3
  (fun w'=>of_any _ w' (by omega) (by omega)) (fun B w' v h hv=>?_) C6 (fun w'=>tsigned_any r a b w' ha hb (by omega))
 have:=make_num E hv hz (by omega) (hT.all h)
 unfold dErr dM dX at this
 rw [hok] at this
 exact this.mono fun r w'' ⟨u,g1,g2,g3⟩=>⟨⟨u,g1,g2⟩,g3⟩
theorem pS_def (a b:Nat):stk (dS a * 2 ^ 54) (dS b) = pS a b:=by unfold pS;rfl
theorem dT_in (b:Nat) (hb:b < 18446744073709551616) (hf:fFin b = true) (h0:fK b ≠ 0):-1100≤dT b∧dT b≤1100:=by
 obtain ⟨x1,x2,x3,x4,x5,x6,x7,x8⟩:=dS_facts b hb hf h0
 unfold dT
 omega
theorem divFinite_any (a b:Nat) (w:World) (ha:a < 18446744073709551616) (hb:b < 18446744073709551616) (fa:fFin a = true) (fb:fFin b = true) (a0:fK a ≠ 0) (b0:fK b ≠ 0) (hT:Tab w) :
  Calls Tryz.prog 192 #[.int .u64 a,.int .u64 b] w fun r w'=>r = .returned (.tuple #[.int .u64 (dV a b:Nat),.int .u8 (dF a b)])∧Below w.heap.size w w':=by
 obtain ⟨y1,y2,y3,y4,y5,y6,y7,y8⟩:=dS_facts b hb fb b0
 obtain ⟨s1,s2,s3⟩:=pS_facts a b ha hb fa fb a0 b0
 obtain ⟨q1,q2⟩:=quo_prog a b ha hb fa fb a0 b0
 have hr:qV a b≤9218868437227405312:=rnd_le _ _
 have C3:=fun w'=>quotient_any (dS a) (dS b) w' y4 s3
 have t1:=dT_in a ha fa a0
 have t2:=dT_in b hb fb b0
 have e1:=(dV_fin a b fa fb a0 b0).1
 have e2:=(dV_fin a b fa fb a0 b0).2
 rw [pS_def] at C3
 rw [e1,e2]
 exact divFinite_of a b (pS a b) (dS a) (dS b) (qV a b) (dT a) (dT b) (qF a b) w ha hb hr ⟨t1.1,t1.2,t2.1,t2.2⟩ s1 s2 q1 q2 hT (fun w' h=>sizeOf_any a w' ha fa a0 (hT.all h)) (fun w' h=>sizeOf_any b w' hb fb b0 (hT.all h)) C3
end Go.Proofs.YtnnfjeieennffaaGreatDoor
namespace Go.Proofs.YtnnfjeieennffaaGreatDoor
open Go.RowKit
theorem tdiv_n1 (a b:Nat) (kb:Int) (w:World) 
  (C1:∀ w',Calls Tryz.prog 113 #[.int .u64 a] w' fun r w''=>r = .returned (.int .i64 4)∧Below w'.heap.size w' w'')
  (C2:∀ w',Calls Tryz.prog 113 #[.int .u64 b] w' fun r w''=>r = .returned (.int .i64 kb)∧Below w'.heap.size w' w'') :
  Calls Tryz.prog 174 #[.int .u64 a,.int .u64 b] w fun r w'=>r = .returned (.tuple #[.int .u64 9221120237041090560,.int .u8 0])∧Below w.heap.size w w':=by
 have K1:=hide C1;have K2:=hide C2
 clear C1 C2
 go_enter Tryz.func174,Tryz.ntmps174
 go_wp2_with fail
 refine (uH K1 _).mono ?_
 rintro e w1 ⟨rfl,hb1⟩
 go_wp2_with fail
 refine (uH K2 _).mono ?_
 rintro e w2 ⟨rfl,hb2⟩
 have B:=hide (hb1.trans (hb2.mono hb1.size))
 clear hb1 hb2 K1 K2
 go_wp2
 exact bodyPost_ret (v:=.tuple #[.int .u64 9221120237041090560,.int .u8 0]) (by simp [results,Tryz.results174,go_sem]) rfl ⟨rfl,uH B⟩
theorem tdiv_n2 (a b:Nat) (ka:Int) (w:World) (h0:(ka == 4) = false)
  (C1:∀ w',Calls Tryz.prog 113 #[.int .u64 a] w' fun r w''=>r = .returned (.int .i64 ka)∧Below w'.heap.size w' w'')
  (C2:∀ w',Calls Tryz.prog 113 #[.int .u64 b] w' fun r w''=>r = .returned (.int .i64 4)∧Below w'.heap.size w' w'') :
  Calls Tryz.prog 174 #[.int .u64 a,.int .u64 b] w fun r w'=>r = .returned (.tuple #[.int .u64 9221120237041090560,.int .u8 0])∧Below w.heap.size w w':=by
 have K1:=hide C1;have K2:=hide C2
 clear C1 C2
 go_enter Tryz.func174,Tryz.ntmps174
 go_wp2_with fail
 refine (uH K1 _).mono ?_
 rintro e w1 ⟨rfl,hb1⟩
 go_wp2_with fail
 refine (uH K2 _).mono ?_
 rintro e w2 ⟨rfl,hb2⟩
 have B:=hide (hb1.trans (hb2.mono hb1.size))
 clear hb1 hb2 K1 K2
 go_wp2
 exact bodyPost_ret (v:=.tuple #[.int .u64 9221120237041090560,.int .u8 0]) (by simp [results,Tryz.results174,go_sem]) rfl ⟨rfl,uH B⟩
theorem tdiv_ii (a b:Nat) (w:World) 
  (C1:∀ w',Calls Tryz.prog 113 #[.int .u64 a] w' fun r w''=>r = .returned (.int .i64 3)∧Below w'.heap.size w' w'')
  (C2:∀ w',Calls Tryz.prog 113 #[.int .u64 b] w' fun r w''=>r = .returned (.int .i64 3)∧Below w'.heap.size w' w'') :
  Calls Tryz.prog 174 #[.int .u64 a,.int .u64 b] w fun r w'=>r = .returned (.tuple #[.int .u64 9221120237041090560,.int .u8 16])∧Below w.heap.size w w':=by
 have K1:=hide C1;have K2:=hide C2
 clear C1 C2
 go_enter Tryz.func174,Tryz.ntmps174
 go_wp2_with fail
 refine (uH K1 _).mono ?_
 rintro e w1 ⟨rfl,hb1⟩
 go_wp2_with fail
 refine (uH K2 _).mono ?_
 rintro e w2 ⟨rfl,hb2⟩
 have B:=hide (hb1.trans (hb2.mono hb1.size))
 clear hb1 hb2 K1 K2
 go_wp2
 exact bodyPost_ret (v:=.tuple #[.int .u64 9221120237041090560,.int .u8 16]) (by simp [results,Tryz.results174,go_sem]) rfl ⟨rfl,uH B⟩
theorem tdiv_zz (a b:Nat) (w:World) 
  (C1:∀ w',Calls Tryz.prog 113 #[.int .u64 a] w' fun r w''=>r = .returned (.int .i64 0)∧Below w'.heap.size w' w'')
  (C2:∀ w',Calls Tryz.prog 113 #[.int .u64 b] w' fun r w''=>r = .returned (.int .i64 0)∧Below w'.heap.size w' w'') :
  Calls Tryz.prog 174 #[.int .u64 a,.int .u64 b] w fun r w'=>r = .returned (.tuple #[.int .u64 9221120237041090560,.int .u8 16])∧Below w.heap.size w w':=by
 have K1:=hide C1;have K2:=hide C2
 clear C1 C2
 go_enter Tryz.func174,Tryz.ntmps174
 go_wp2_with fail
 refine (uH K1 _).mono ?_
 rintro e w1 ⟨rfl,hb1⟩
 go_wp2_with fail
 refine (uH K2 _).mono ?_
 rintro e w2 ⟨rfl,hb2⟩
 have B:=hide (hb1.trans (hb2.mono hb1.size))
 clear hb1 hb2 K1 K2
 go_wp2
 exact bodyPost_ret (v:=.tuple #[.int .u64 9221120237041090560,.int .u8 16]) (by simp [results,Tryz.results174,go_sem]) rfl ⟨rfl,uH B⟩
theorem tdiv_i (a b:Nat) (kb:Int) (o:Nat) (w:World) (h0:(kb == 4) = false) (h1:(kb == 3) = false)
  (C1:∀ w',Calls Tryz.prog 113 #[.int .u64 a] w' fun r w''=>r = .returned (.int .i64 3)∧Below w'.heap.size w' w'')
  (C2:∀ w',Calls Tryz.prog 113 #[.int .u64 b] w' fun r w''=>r = .returned (.int .i64 kb)∧Below w'.heap.size w' w'')
  (C3:∀ w',Calls Tryz.prog 191 #[.int .u64 9218868437227405312,.int .u64 a,.int .u64 b] w' fun r w''=>r = .returned (.int .u64 (o:Nat))∧Below w'.heap.size w' w'') :
  Calls Tryz.prog 174 #[.int .u64 a,.int .u64 b] w fun r w'=>r = .returned (.tuple #[.int .u64 (o:Nat),.int .u8 0])∧Below w.heap.size w w':=by
 have K1:=hide C1;have K2:=hide C2
 clear C1 C2
 go_enter Tryz.func174,Tryz.ntmps174
 go_wp2_with fail
 refine (uH K1 _).mono ?_
 rintro e w1 ⟨rfl,hb1⟩
 go_wp2_with fail
 refine (uH K2 _).mono ?_
 rintro e w2 ⟨rfl,hb2⟩
 have B:=hide (hb1.trans (hb2.mono hb1.size))
 clear hb1 hb2 K1 K2
 have K3:=hide C3
 clear C3
 go_wp2_with fail
 refine (uH K3 _).mono ?_
 rintro e w3 ⟨rfl,hb3⟩
 have B:=hide ((uH B).trans (hb3.mono (uH B).size))
 clear hb3 K3
 go_wp2
 exact bodyPost_ret (v:=.tuple #[.int .u64 (o:Nat),.int .u8 0]) (by simp [results,Tryz.results174,go_sem]) rfl ⟨rfl,uH B⟩
theorem tdiv_z (a b:Nat) (kb:Int) (o:Nat) (w:World) (h0:(kb == 4) = false) (h1:(kb == 0) = false)
  (C1:∀ w',Calls Tryz.prog 113 #[.int .u64 a] w' fun r w''=>r = .returned (.int .i64 0)∧Below w'.heap.size w' w'')
  (C2:∀ w',Calls Tryz.prog 113 #[.int .u64 b] w' fun r w''=>r = .returned (.int .i64 kb)∧Below w'.heap.size w' w'')
  (C3:∀ w',Calls Tryz.prog 191 #[.int .u64 0,.int .u64 a,.int .u64 b] w' fun r w''=>r = .returned (.int .u64 (o:Nat))∧Below w'.heap.size w' w'') :
  Calls Tryz.prog 174 #[.int .u64 a,.int .u64 b] w fun r w'=>r = .returned (.tuple #[.int .u64 (o:Nat),.int .u8 0])∧Below w.heap.size w w':=by
 have K1:=hide C1;have K2:=hide C2
 clear C1 C2
 go_enter Tryz.func174,Tryz.ntmps174
 go_wp2_with fail
 refine (uH K1 _).mono ?_
 rintro e w1 ⟨rfl,hb1⟩
 go_wp2_with fail
 refine (uH K2 _).mono ?_
 rintro e w2 ⟨rfl,hb2⟩
 have B:=hide (hb1.trans (hb2.mono hb1.size))
 clear hb1 hb2 K1 K2
 have K3:=hide C3
 clear C3
 go_wp2_with fail
 refine (uH K3 _).mono ?_
 rintro e w3 ⟨rfl,hb3⟩
 have B:=hide ((uH B).trans (hb3.mono (uH B).size))
 clear hb3 K3
 go_wp2
 exact bodyPost_ret (v:=.tuple #[.int .u64 (o:Nat),.int .u8 0]) (by simp [results,Tryz.results174,go_sem]) rfl ⟨rfl,uH B⟩
theorem tdiv_j (a b:Nat) (ka:Int) (o:Nat) (w:World) (h0:(ka == 4) = false) (h1:(ka == 3) = false) (h2:(ka == 0) = false)
  (C1:∀ w',Calls Tryz.prog 113 #[.int .u64 a] w' fun r w''=>r = .returned (.int .i64 ka)∧Below w'.heap.size w' w'')
  (C2:∀ w',Calls Tryz.prog 113 #[.int .u64 b] w' fun r w''=>r = .returned (.int .i64 3)∧Below w'.heap.size w' w'')
  (C3:∀ w',Calls Tryz.prog 191 #[.int .u64 0,.int .u64 a,.int .u64 b] w' fun r w''=>r = .returned (.int .u64 (o:Nat))∧Below w'.heap.size w' w'') :
  Calls Tryz.prog 174 #[.int .u64 a,.int .u64 b] w fun r w'=>r = .returned (.tuple #[.int .u64 (o:Nat),.int .u8 0])∧Below w.heap.size w w':=by
 have K1:=hide C1;have K2:=hide C2
 clear C1 C2
 go_enter Tryz.func174,Tryz.ntmps174
 go_wp2_with fail
 refine (uH K1 _).mono ?_
 rintro e w1 ⟨rfl,hb1⟩
 go_wp2_with fail
 refine (uH K2 _).mono ?_
 rintro e w2 ⟨rfl,hb2⟩
 have B:=hide (hb1.trans (hb2.mono hb1.size))
 clear hb1 hb2 K1 K2
 have K3:=hide C3
 clear C3
 go_wp2_with fail
 refine (uH K3 _).mono ?_
 rintro e w3 ⟨rfl,hb3⟩
 have B:=hide ((uH B).trans (hb3.mono (uH B).size))
 clear hb3 K3
 go_wp2
 exact bodyPost_ret (v:=.tuple #[.int .u64 (o:Nat),.int .u8 0]) (by simp [results,Tryz.results174,go_sem]) rfl ⟨rfl,uH B⟩
theorem tdiv_y (a b:Nat) (ka:Int) (o:Nat) (w:World) (h0:(ka == 4) = false) (h1:(ka == 3) = false) (h2:(ka == 0) = false)
  (C1:∀ w',Calls Tryz.prog 113 #[.int .u64 a] w' fun r w''=>r = .returned (.int .i64 ka)∧Below w'.heap.size w' w'')
  (C2:∀ w',Calls Tryz.prog 113 #[.int .u64 b] w' fun r w''=>r = .returned (.int .i64 0)∧Below w'.heap.size w' w'')
  (C3:∀ w',Calls Tryz.prog 191 #[.int .u64 9218868437227405312,.int .u64 a,.int .u64 b] w' fun r w''=>r = .returned (.int .u64 (o:Nat))∧Below w'.heap.size w' w'') :
  Calls Tryz.prog 174 #[.int .u64 a,.int .u64 b] w fun r w'=>r = .returned (.tuple #[.int .u64 (o:Nat),.int .u8 8])∧Below w.heap.size w w':=by
 have K1:=hide C1;have K2:=hide C2
 clear C1 C2
 go_enter Tryz.func174,Tryz.ntmps174
 go_wp2_with fail
 refine (uH K1 _).mono ?_
 rintro e w1 ⟨rfl,hb1⟩
 go_wp2_with fail
 refine (uH K2 _).mono ?_
 rintro e w2 ⟨rfl,hb2⟩
 have B:=hide (hb1.trans (hb2.mono hb1.size))
 clear hb1 hb2 K1 K2
 have K3:=hide C3
 clear C3
 go_wp2_with fail
 refine (uH K3 _).mono ?_
 rintro e w3 ⟨rfl,hb3⟩
 have B:=hide ((uH B).trans (hb3.mono (uH B).size))
 clear hb3 K3
 go_wp2
 exact bodyPost_ret (v:=.tuple #[.int .u64 (o:Nat),.int .u8 8]) (by simp [results,Tryz.results174,go_sem]) rfl ⟨rfl,uH B⟩
theorem tdiv_f (a b:Nat) (ka kb:Int) (fl:Int) (o:Nat) (w:World) (h0:(ka == 4) = false) (h1:(ka == 3) = false) (h2:(ka == 0) = false) (h3:(kb == 4) = false) (h4:(kb == 3) = false) (h5:(kb == 0) = false) (hT:Tab w)
  (C1:∀ w',Calls Tryz.prog 113 #[.int .u64 a] w' fun r w''=>r = .returned (.int .i64 ka)∧Below w'.heap.size w' w'')
  (C2:∀ w',Calls Tryz.prog 113 #[.int .u64 b] w' fun r w''=>r = .returned (.int .i64 kb)∧Below w'.heap.size w' w'')
  (C3:∀ w',Tab w'→Calls Tryz.prog 192 #[.int .u64 a,.int .u64 b] w' fun r w''=>r = .returned (.tuple #[.int .u64 (o:Nat),.int .u8 fl])∧Below w'.heap.size w' w'') :
  Calls Tryz.prog 174 #[.int .u64 a,.int .u64 b] w fun r w'=>r = .returned (.tuple #[.int .u64 (o:Nat),.int .u8 fl])∧Below w.heap.size w w':=by
 have K1:=hide C1;have K2:=hide C2
 clear C1 C2
 go_enter Tryz.func174,Tryz.ntmps174
 go_wp2_with fail
 refine (uH K1 _).mono ?_
 rintro e w1 ⟨rfl,hb1⟩
 go_wp2_with fail
 refine (uH K2 _).mono ?_
 rintro e w2 ⟨rfl,hb2⟩
 have B:=hide (hb1.trans (hb2.mono hb1.size))
 clear hb1 hb2 K1 K2
 have K3:=hide C3;have HT:=hide (hT.all (uH B))
 clear C3 hT
 go_wp2_with fail
 refine (uH K3 _ (uH HT)).mono ?_
 rintro e w3 ⟨rfl,hb3⟩
 have B:=hide ((uH B).trans (hb3.mono (uH B).size))
 clear hb3 K3 HT
 go_wp2
 exact bodyPost_ret (v:=.tuple #[.int .u64 (o:Nat),.int .u8 fl]) (by simp [results,Tryz.results174,go_sem]) rfl ⟨rfl,uH B⟩
theorem tdiv_any (a b:Nat) (w:World) (ha:a < 18446744073709551616) (hb:b < 18446744073709551616) (hT:Tab w) :
  Calls Tryz.prog 174 #[.int .u64 a,.int .u64 b] w fun r w'=>r = .returned (.tuple #[.int .u64 (dV a b:Nat),.int .u8 (dF a b)])∧Below w.heap.size w w':=by
 have C1:=fun w'=>kind_any a w' ha
 have C2:=fun w'=>kind_any b w' hb
 have CI:=fun w'=>tsigned_any 9218868437227405312 a b w' ha hb (by decide)
 have CZ:=fun w'=>tsigned_any 0 a b w' ha hb (by decide)
 by_cases a4:fK a = 4
 ·rw [show dV a b = 9221120237041090560 by unfold dV;rw [if_pos (Or.inl a4)],show dF a b = 0 by unfold dF;rw [if_pos (Or.inl a4)]]
  rw [a4] at C1
  exact tdiv_n1 a b _ w C1 C2
 by_cases b4:fK b = 4
 ·rw [show dV a b = 9221120237041090560 by unfold dV;rw [if_pos (Or.inr b4)],show dF a b = 0 by unfold dF;rw [if_pos (Or.inr b4)]]
  rw [b4] at C2
  exact tdiv_n2 a b _ w (by simp [a4]) C1 C2
 have n4:¬ (fK a = 4 ∨ fK b = 4):=by omega
 by_cases hs:fK a = fK b∧(fK a = 3 ∨ fK a = 0)
 ·rw [show dV a b = 9221120237041090560 by unfold dV;rw [if_neg n4,if_pos hs],show dF a b = 16 by unfold dF;rw [if_neg n4,if_pos hs]]
  rcases hs with ⟨h1,h3 | h0⟩
  ·rw [h3] at C1
   rw [← h1,h3] at C2
   exact tdiv_ii a b w C1 C2
  ·rw [h0] at C1
   rw [← h1,h0] at C2
   exact tdiv_zz a b w C1 C2
 by_cases a3:fK a = 3
 ·rw [show dV a b = wrd (fS a ^^ fS b) 9218868437227405312 by unfold dV;rw [if_neg n4,if_neg hs,if_pos a3],show dF a b = 0 by unfold dF;rw [if_neg n4,if_neg hs,if_pos a3]]
  rw [a3] at C1
  exact tdiv_i a b _ _ w (by simp [b4]) (by simp;omega) C1 C2 CI
 by_cases h3:fK b = 3 ∨ fK a = 0
 ·rw [show dV a b = wrd (fS a ^^ fS b) 0 by unfold dV;rw [if_neg n4,if_neg hs,if_neg a3,if_pos h3],show dF a b = 0 by unfold dF;rw [if_neg n4,if_neg hs,if_neg a3,if_pos h3]]
  by_cases a0:fK a = 0
  ·rw [a0] at C1
   exact tdiv_z a b _ _ w (by simp [b4]) (by simp;omega) C1 C2 CZ
  ·have b3:fK b = 3:=by omega
   rw [b3] at C2
   exact tdiv_j a b _ _ w (by simp [a4]) (by simp [a3]) (by simp [a0]) C1 C2 CZ
 by_cases b0:fK b = 0
 ·rw [show dV a b = wrd (fS a ^^ fS b) 9218868437227405312 by unfold dV;rw [if_neg n4,if_neg hs,if_neg a3,if_neg h3,if_pos b0],show dF a b = 8 by unfold dF;rw [if_neg n4,if_neg hs,if_neg a3,if_neg h3,if_pos b0]]
  rw [b0] at C2
  exact tdiv_y a b _ _ w (by simp [a4]) (by simp [a3]) (by simp;omega) C1 C2 CI
 ·exact tdiv_f a b _ _ _ _ w (by simp [a4]) (by simp [a3]) (by simp;omega) (by simp [b4]) (by simp;omega) (by simp [b0]) hT C1 C2 (fun w' t=>divFinite_any a b w' ha hb (fin_of a a3 a4) (fin_of b (by omega) b4) (by omega) b0 t)
end Go.Proofs.YtnnfjeieennffaaGreatDoor
namespace Go.Proofs.YtnnfjeieennffaaGreatDoor
open Go.RowKit
def lV (a:Nat) (n:Int):Nat:=if fK a = 4 then a else xV a n
end Go.Proofs.YtnnfjeieennffaaGreatDoor
namespace Go.Proofs.YtnnfjeieennffaaGreatDoor
def isq:Nat→Nat
 | 0=>0
 | n+1=>if (isq n+1) * (isq n+1)≤n+1 then isq n+1 else isq n
theorem sq_succ (m:Nat):(m+1) * (m+1) = m * m+2 * m+1:=by rw [Nat.add_mul,Nat.mul_add];omega
theorem sq_le {a b:Nat} (h:a≤b):a * a≤b * b:=Nat.mul_le_mul h h
theorem sq_lt {a b:Nat} (h:a < b):a * a < b * b:=Nat.mul_lt_mul_of_lt_of_le h (Nat.le_of_lt h) (by omega)
theorem sq_lt_iff {a b:Nat}:a * a < b * b ↔ a < b:=by
 constructor
 ·intro h
  rcases Nat.lt_or_ge a b with h1 | h1
  ·exact h1
  ·have:=sq_le h1;omega
 ·exact sq_lt
theorem isq_spec (n:Nat):isq n * isq n≤n∧n < (isq n+1) * (isq n+1):=by
 induction n with
 | zero=>exact ⟨Nat.le_refl _,by decide⟩
 | succ n ih =>
  unfold isq
  obtain ⟨h1,h2⟩:=ih
  have e1:=sq_succ (isq n)
  have e2:=sq_succ (isq n+1)
  split
  ·rename_i h
   exact ⟨h,by omega⟩
  ·rename_i h
   exact ⟨by omega,by omega⟩
theorem isq_unique {n m:Nat} (h1:m * m≤n) (h2:n < (m+1) * (m+1)):isq n = m:=by
 obtain ⟨g1,g2⟩:=isq_spec n
 have a1:isq n < m+1:=sq_lt_iff.1 (by omega)
 have a2:m < isq n+1:=sq_lt_iff.1 (by omega)
 omega
theorem isq_mono {n m:Nat} (h:n≤m):isq n≤isq m:=by
 obtain ⟨g1,g2⟩:=isq_spec n
 obtain ⟨k1,k2⟩:=isq_spec m
 have:isq n < isq m+1:=sq_lt_iff.1 (by omega)
 omega
theorem sq_mul (a p:Nat):a * p * (a * p) = a * a * (p * p):=by ac_rfl
theorem isq_scale (N p:Nat) (hp:0 < p):isq (N * (p * p)) / p = isq N:=by
 obtain ⟨g1,g2⟩:=isq_spec N
 obtain ⟨k1,k2⟩:=isq_spec (N * (p * p))
 have hpp:0 < p * p:=Nat.mul_pos hp hp
 have a1:isq N * p < isq (N * (p * p))+1:=by
  apply sq_lt_iff.1
  rw [sq_mul]
  have:isq N * isq N * (p * p)≤N * (p * p):=Nat.mul_le_mul_right _ g1
  omega
 have a2:isq (N * (p * p)) < (isq N+1) * p:=by
  apply sq_lt_iff.1
  rw [sq_mul]
  have:N * (p * p) < (isq N+1) * (isq N+1) * (p * p):=(Nat.mul_lt_mul_right hpp).2 g2
  omega
 have b1:isq N≤isq (N * (p * p)) / p:=(Nat.le_div_iff_mul_le hp).2 (by omega)
 have b2:isq (N * (p * p)) / p < isq N+1:=(Nat.div_lt_iff_lt_mul hp).2 a2
 omega
def rS (N:Nat):Nat:=2 * isq N+(if isq N * isq N = N then 0 else 1)
def cutR (N k:Nat):Nat:=isq N / 2 ^ k+(if (2 * (isq N / 2 ^ k)+1) * 2 ^ k * ((2 * (isq N / 2 ^ k)+1) * 2 ^ k) < 4 * N ∨ ((2 * (isq N / 2 ^ k)+1) * 2 ^ k * ((2 * (isq N / 2 ^ k)+1) * 2 ^ k) = 4 * N∧isq N / 2 ^ k % 2 = 1) then 1 else 0)
theorem cutR_scale (N k i:Nat):cutR (N * (2 ^ i * 2 ^ i)) (k+i) = cutR N k:=by
 have hp:0 < 2 ^ i:=Nat.two_pow_pos _
 have hpp:0 < 2 ^ i * 2 ^ i:=Nat.mul_pos hp hp
 have e:isq (N * (2 ^ i * 2 ^ i)) / 2 ^ (k+i) = isq N / 2 ^ k:=by
  rw [Nat.add_comm k i,Nat.pow_add,← Nat.div_div_eq_div_mul,isq_scale N _ hp]
 unfold cutR
 rw [e]
 generalize isq N / 2 ^ k = m
 have s1:(2 * m+1) * 2 ^ (k+i) * ((2 * m+1) * 2 ^ (k+i)) = (2 * m+1) * 2 ^ k * ((2 * m+1) * 2 ^ k) * (2 ^ i * 2 ^ i):=by
  rw [Nat.pow_add];ac_rfl
 have s2:4 * (N * (2 ^ i * 2 ^ i)) = 4 * N * (2 ^ i * 2 ^ i):=by ac_rfl
 rw [s1,s2]
 have c1:((2 * m+1) * 2 ^ k * ((2 * m+1) * 2 ^ k) * (2 ^ i * 2 ^ i) < 4 * N * (2 ^ i * 2 ^ i)) ↔ (2 * m+1) * 2 ^ k * ((2 * m+1) * 2 ^ k) < 4 * N:=Nat.mul_lt_mul_right hpp
 have c2:((2 * m+1) * 2 ^ k * ((2 * m+1) * 2 ^ k) * (2 ^ i * 2 ^ i) = 4 * N * (2 ^ i * 2 ^ i)) ↔ (2 * m+1) * 2 ^ k * ((2 * m+1) * 2 ^ k) = 4 * N :=
  ⟨fun h=>Nat.eq_of_mul_eq_mul_right hpp h,fun h=>by rw [h]⟩
 simp only [c1,c2]
theorem rS_cut (N k:Nat) (hk:1≤k):cutE (rS N) (k+1) = cutR N k:=by
 obtain ⟨j,rfl⟩:∃ j,k = j+1:=⟨k - 1,by omega⟩
 obtain ⟨n1,n2⟩:=isq_spec N
 have hg:0 < 2 ^ j:=Nat.two_pow_pos _
 have e1:(2:Nat) ^ (j+1) = 2 * 2 ^ j:=by rw [Nat.pow_succ,Nat.mul_comm]
 have e2:(2:Nat) ^ (j+1+1) = 2 * (2 * 2 ^ j):=by rw [Nat.pow_succ,e1,Nat.mul_comm]
 have ht:(if isq N * isq N = N then 0 else 1)≤1:=by split <;> omega
 have htz:(if isq N * isq N = N then 0 else 1) = 0 ↔ isq N * isq N = N:=by split <;> simp_all
 unfold cutE cutR rS
 rw [e2,e1]
 generalize (2:Nat) ^ j = g at *
 generalize (if isq N * isq N = N then 0 else 1) = t at *
 generalize isq N = q at *
 have hq:=Nat.div_add_mod q (2 * g)
 have ha:=Nat.mod_lt q (show 0 < 2 * g by omega)
 generalize hA:q % (2 * g) = a at *
 generalize hQ:q / (2 * g) = b at *
 have s1:(2 * q+t) / (2 * (2 * g)) = b:=by
  rw [← hq,Nat.mul_add,← Nat.mul_assoc 2 (2 * g) b,Nat.add_assoc]
  rw [Nat.mul_add_div (by omega),Nat.div_eq_of_lt (by omega),Nat.add_zero]
 have s2:(2 * q+t) % (2 * (2 * g)) = 2 * a+t:=by
  rw [← hq,Nat.mul_add,← Nat.mul_assoc 2 (2 * g) b,Nat.add_assoc,Nat.mul_add_mod,Nat.mod_eq_of_lt (by omega)]
 rw [s1,s2]
 congr 1
 -- half between two,as a square
 obtain ⟨c,hc⟩:∃ c,c = 2 * g * b+g:=⟨_,rfl⟩
 have hM:(2 * b+1) * (2 * g) * ((2 * b+1) * (2 * g)) = 4 * (c * c):=by
  have:(2 * b+1) * (2 * g) = 2 * c:=by rw [hc,Nat.add_mul,Nat.one_mul,Nat.mul_add];ac_rfl
  rw [this,show (4:Nat) = 2 * 2 by decide]
  ac_rfl
 rw [hM]
 clear hM hQ hA s1 s2
 rcases Nat.lt_trichotomy a g with h | h | h
 ·have h1:(q+1) * (q+1)≤c * c:=sq_le (by omega)
  rw [if_neg (by omega),if_neg (by omega)]
 ·have h1:c = q:=by omega
  subst h1
  by_cases h0:c * c = N
  ·have:=htz.2 h0
   by_cases hb:b % 2 = 1
   ·rw [if_pos (Or.inr ⟨by omega,hb⟩),if_pos (Or.inr ⟨by omega,hb⟩)]
   ·rw [if_neg (by omega),if_neg (by omega)]
  ·have:t ≠ 0:=fun e=>h0 (htz.1 e)
   rw [if_pos (Or.inl (by omega)),if_pos (Or.inl (by omega))]
 ·have h1:c * c < q * q:=sq_lt (by omega)
  rw [if_pos (Or.inl (by omega)),if_pos (Or.inl (by omega))]
theorem rS_bl (N i:Nat) (hq:0 < isq N):bl (rS (N * (2 ^ i * 2 ^ i))) = bl (rS N)+i:=by
 have hp:0 < 2 ^ i:=Nat.two_pow_pos _
 have hs:rS N ≠ 0:=by unfold rS;omega
 obtain ⟨b1,b2,b3⟩:=bl_spec (rS N) hs
 have h1:2≤rS N:=by unfold rS;omega
 have hb2:2≤bl (rS N):=by
  rcases Nat.lt_or_ge (bl (rS N)) 2 with h | h
  ·have:bl (rS N) = 1:=by omega
   rw [this] at b3;omega
  ·exact h
 obtain ⟨c,hc⟩:∃ c,bl (rS N) = c+2:=⟨bl (rS N) - 2,by omega⟩
 rw [hc] at b2 b3 ⊢
 have ht:(if isq N * isq N = N then 0 else 1)≤1:=by split <;> omega
 have q3:2 ^ c≤isq N:=by
  rw [show c+2 - 1 = c+1 by omega,Nat.pow_succ] at b2
  unfold rS at b2
  omega
 have q2:isq N < 2 ^ (c+1):=by
  rw [Nat.pow_succ] at b3
  unfold rS at b3
  omega
 have hd:=isq_scale N (2 ^ i) hp
 have m1:2 ^ (c+i)≤isq (N * (2 ^ i * 2 ^ i)):=by
  rw [Nat.pow_add,← Nat.le_div_iff_mul_le hp,hd];exact q3
 have m2:isq (N * (2 ^ i * 2 ^ i)) < 2 ^ (c+1+i):=by
  rw [Nat.pow_add,← Nat.div_lt_iff_lt_mul hp,hd];exact q2
 refine bl_of (by omega) ?_ ?_
 ·rw [show c+2+i - 1 = c+i+1 by omega,Nat.pow_succ]
  unfold rS
  omega
 ·rw [show c+2+i = c+1+i+1 by omega,Nat.pow_succ]
  unfold rS
  have ht:(if isq (N * (2 ^ i * 2 ^ i)) * isq (N * (2 ^ i * 2 ^ i)) = N * (2 ^ i * 2 ^ i) then 0 else 1)≤1:=by split <;> omega
  omega
theorem rS_big {N:Nat} (hq:9007199254740992≤isq N):55≤bl (rS N):=by
 have hs:rS N ≠ 0:=by unfold rS;omega
 obtain ⟨b1,b2,b3⟩:=bl_spec (rS N) hs
 have h:2 ^ 54≤rS N:=by
  have:(2:Nat) ^ 54 = 2 * 9007199254740992:=by decide
  rw [this];unfold rS;omega
 have:=pow_lt_of (Nat.lt_of_le_of_lt h b3)
 omega
theorem rS_step (N i:Nat) (E:Int) (hq:9007199254740992≤isq N) :
  rnd (rS (N * (2 ^ i * 2 ^ i))) (E - i) = rnd (rS N) E∧lastE (rS (N * (2 ^ i * 2 ^ i))) (E - i) = lastE (rS N) E∧(bl (rS (N * (2 ^ i * 2 ^ i))):Int)+(E - i) = (bl (rS N):Int)+E∧E+2≤lastE (rS N) E:=by
 have hb:=rS_bl N i (by omega)
 have h55:=rS_big hq
 have hs:rS N ≠ 0:=by unfold rS;omega
 have hs':rS (N * (2 ^ i * 2 ^ i)) ≠ 0:=fun h=>by
  rw [h] at hb
  have:bl 0 = 0:=rfl
  omega
 have hl:lastE (rS (N * (2 ^ i * 2 ^ i))) (E - i) = lastE (rS N) E:=by unfold lastE;rw [hb];omega
 have hbE:(bl (rS (N * (2 ^ i * 2 ^ i))):Int)+(E - i) = (bl (rS N):Int)+E:=by rw [hb];omega
 have h2:E+2≤lastE (rS N) E:=by have:=(lastE_ge (rS N) E).2.1;omega
 refine ⟨?_,hl,hbE,h2⟩
 have hM:rndM (rS (N * (2 ^ i * 2 ^ i))) (E - i) = rndM (rS N) E:=by
  unfold rndM
  rw [hl]
  obtain ⟨k,hk⟩:∃ k:Nat,lastE (rS N) E = E+k+1∧1≤k:=⟨(lastE (rS N) E - E - 1).toNat,by omega,by omega⟩
  rw [show E - i - lastE (rS N) E = -((k+i+1:Nat):Int) by omega,show E - lastE (rS N) E = -((k+1:Nat):Int) by omega]
  rw [mS_down _ _ (by omega),mS_down _ _ (by omega),rS_cut _ _ (by omega),rS_cut _ _ (by omega)]
  exact cutR_scale _ _ _
 unfold rnd
 rw [if_neg hs,if_neg hs',hbE,hM,hl]
theorem isq_sq (N i:Nat):isq (N * (2 ^ i * 2 ^ i)) * isq (N * (2 ^ i * 2 ^ i)) = N * (2 ^ i * 2 ^ i) ↔ isq N * isq N = N:=by
 have hp:0 < 2 ^ i:=Nat.two_pow_pos _
 have hpp:0 < 2 ^ i * 2 ^ i:=Nat.mul_pos hp hp
 constructor
 ·intro h
  have hd:=isq_scale N (2 ^ i) hp
  generalize hR:isq (N * (2 ^ i * 2 ^ i)) = R at *
  -- 2^i goes into R,since its square goes into R's
  have dv:∀ (n a:Nat),(2 ^ n * 2 ^ n) ∣ a * a→2 ^ n ∣ a:=by
   intro n
   induction n with
   | zero=>intro a _;simp
   | succ n ih =>
    intro a ha
    have h2:2 ∣ a * a:=Nat.dvd_trans ⟨2 ^ n * 2 ^ (n+1),by rw [Nat.pow_succ];ac_rfl⟩ ha
    have h3:a % 2 = 0:=by
     rcases Nat.mod_two_eq_zero_or_one a with h | h
     ·exact h
     ·exfalso
      have:a * a % 2 = 1:=by rw [Nat.mul_mod,h]
      omega
    obtain ⟨b,rfl⟩:∃ b,a = 2 * b:=⟨a / 2,by omega⟩
    have h4:2 ^ n * 2 ^ n ∣ b * b:=by
     obtain ⟨c,hc⟩:=ha
     refine ⟨c,?_⟩
     have:4 * (b * b) = 4 * (2 ^ n * 2 ^ n * c):=by
      have e1:2 * b * (2 * b) = 4 * (b * b):=by rw [show (4:Nat) = 2 * 2 by decide];ac_rfl
      have e2:2 ^ (n+1) * 2 ^ (n+1) * c = 4 * (2 ^ n * 2 ^ n * c):=by rw [Nat.pow_succ,show (4:Nat) = 2 * 2 by decide];ac_rfl
      rw [← e1,hc,e2]
     omega
    obtain ⟨d,hd⟩:=ih b h4
    exact ⟨d,by rw [hd,Nat.pow_succ];ac_rfl⟩
  obtain ⟨c,hc⟩:=dv i R ⟨N,by rw [h];ac_rfl⟩
  rw [hc,Nat.mul_div_cancel_left c hp] at hd
  rw [← hd]
  have:c * c * (2 ^ i * 2 ^ i) = N * (2 ^ i * 2 ^ i):=by rw [← h,hc];ac_rfl
  exact Nat.eq_of_mul_eq_mul_right hpp this
 ·intro h
  have:isq (N * (2 ^ i * 2 ^ i)) = isq N * 2 ^ i:=by
   refine isq_unique ?_ ?_
   ·rw [sq_mul,h];exact Nat.le_refl _
   ·have:=sq_succ (isq N * 2 ^ i)
    rw [sq_mul,h] at this
    omega
  rw [this,sq_mul,h]
theorem rS_flag (N i:Nat) (E:Int) (hq:9007199254740992≤isq N) :
  rflag (oM (rS (N * (2 ^ i * 2 ^ i)):Nat)).natAbs (oE (rS (N * (2 ^ i * 2 ^ i)):Nat) (E - i)) = rflag (oM (rS N:Nat)).natAbs (oE (rS N:Nat) E):=by
 obtain ⟨s1,s2,s3,s4⟩:=rS_step N i E hq
 have hsq:=isq_sq N i
 by_cases h0:isq N * isq N = N
 ·have h1:=hsq.2 h0
  have h2:isq (N * (2 ^ i * 2 ^ i)) = isq N * 2 ^ i:=by
   refine isq_unique ?_ ?_
   ·rw [sq_mul,h0];exact Nat.le_refl _
   ·have:=sq_succ (isq N * 2 ^ i)
    rw [sq_mul,h0] at this
    omega
  have e:rS (N * (2 ^ i * 2 ^ i)) = rS N * 2 ^ i:=by
   unfold rS;rw [if_pos h0,if_pos h1,h2,Nat.add_zero,Nat.add_zero,Nat.mul_assoc]
  have e2:((rS (N * (2 ^ i * 2 ^ i)):Nat):Int) = ((rS N:Nat):Int) * 2 ^ i:=by rw [e,Int.natCast_mul,Int.natCast_pow];rfl
  have:=oM_scale ((rS N:Nat):Int) i (E - i)
  rw [e2,this.1,this.2,show E - (i:Int)+i = E by omega]
 ·have h1:¬ isq (N * (2 ^ i * 2 ^ i)) * isq (N * (2 ^ i * 2 ^ i)) = N * (2 ^ i * 2 ^ i):=fun h=>h0 (hsq.1 h)
  have o1:((rS N:Nat):Int) % 2 = 1:=by unfold rS;rw [if_neg h0];omega
  have o2:((rS (N * (2 ^ i * 2 ^ i)):Nat):Int) % 2 = 1:=by unfold rS;rw [if_neg h1];omega
  have z1:∀ (v:Nat) (e:Int),(v:Int) % 2 = 1→oM (v:Int) = v∧oE (v:Int) e = e:=fun v e h=>by
   have hne:(v:Int) ≠ 0:=by omega
   have a:=(oddOf (v:Int) hne).unique (m':=(v:Int)) (k':=0) ⟨by simp,h⟩
   exact ⟨a.1,by rw [oE_ne _ _ hne,a.2];simp⟩
  rw [(z1 _ (E - i) o2).1,(z1 _ (E - i) o2).2,(z1 _ E o1).1,(z1 _ E o1).2,Int.natAbs_natCast,Int.natAbs_natCast]
  have n1:rS N ≠ 0:=by omega
  have n2:rS (N * (2 ^ i * 2 ^ i)) ≠ 0:=by omega
  unfold rflag
  rw [if_neg n1,if_neg n2,s3,s2,s1,if_neg (show ¬ lastE (rS N) E≤E - i by omega),if_neg (show ¬ lastE (rS N) E≤E by omega)]
end Go.Proofs.YtnnfjeieennffaaGreatDoor
namespace Go.Proofs.YtnnfjeieennffaaGreatDoor
open Go.RowKit
theorem root_two (m k p D α sh:Nat) (e1 e2:Int) (hV:m * 2 ^ k = D * 2 ^ α) (h1:2 * e1 = (k:Int) - 1074 - p) (h2:2 * e2 = (α:Int) - 1074 - sh) (q1:9007199254740992≤isq (m * 2 ^ p)) (q2:9007199254740992≤isq (D * 2 ^ sh)) :
  rnd (rS (m * 2 ^ p)) (e1 - 1) = rnd (rS (D * 2 ^ sh)) (e2 - 1)∧rflag (oM (rS (m * 2 ^ p):Nat)).natAbs (oE (rS (m * 2 ^ p):Nat) (e1 - 1)) = rflag (oM (rS (D * 2 ^ sh):Nat)).natAbs (oE (rS (D * 2 ^ sh):Nat) (e2 - 1)):=by
 have key:∀ (m k p D α sh i:Nat),m * 2 ^ k = D * 2 ^ α→p+2 * i+α = k+sh→m * 2 ^ p * (2 ^ i * 2 ^ i) = D * 2 ^ sh:=by
  intro m k p D α sh i hV hi
  have hp:0 < 2 ^ α:=Nat.two_pow_pos _
  refine Nat.eq_of_mul_eq_mul_right hp ?_
  rw [← Nat.pow_add,Nat.mul_assoc,Nat.mul_assoc,← Nat.pow_add,← Nat.pow_add,show p+(i+i+α) = k+sh by omega,Nat.pow_add,← Nat.mul_assoc,hV]
  ac_rfl
 rcases Int.le_total e2 e1 with h | h
 ·obtain ⟨i,hi⟩:∃ i:Nat,e1 - e2 = i:=⟨(e1 - e2).toNat,by omega⟩
  have e:=key m k p D α sh i hV (by omega)
  have s:=rS_step (m * 2 ^ p) i (e1 - 1) q1
  have f:=rS_flag (m * 2 ^ p) i (e1 - 1) q1
  rw [e,show e1 - 1 - (i:Int) = e2 - 1 by omega] at s f
  exact ⟨s.1.symm,f.symm⟩
 ·obtain ⟨i,hi⟩:∃ i:Nat,e2 - e1 = i:=⟨(e2 - e1).toNat,by omega⟩
  have e:=key D α sh m k p i hV.symm (by omega)
  have s:=rS_step (D * 2 ^ sh) i (e2 - 1) q2
  have f:=rS_flag (D * 2 ^ sh) i (e2 - 1) q2
  rw [e,show e2 - 1 - (i:Int) = e1 - 1 by omega] at s f
  exact ⟨s.1,f⟩
def tS (a:Nat):Nat:=rS (rv (fR a) * 2 ^ 120)
def tV (a:Nat):Nat:=rnd (tS a) (-598)
def tF (a:Nat):Int:=rflag (oM (tS a:Nat)).natAbs (oE (tS a:Nat) (-598))
def sV (a:Nat):Nat :=
 if fK a = 4 then 9221120237041090560
 else if fK a = 0 ∨ a = 9218868437227405312 then a
 else if fS a = true then 9221120237041090560
 else tV a
def sF (a:Nat):Int :=
 if fK a = 4 then 0
 else if fK a = 0 ∨ a = 9218868437227405312 then 0
 else if fS a = true then 16
 else tF a
theorem big_sq {N:Nat} (h:2 ^ 106≤N):9007199254740992≤isq N:=by
 obtain ⟨g1,g2⟩:=isq_spec N
 have e:(9007199254740992:Nat) * 9007199254740992 = 2 ^ 106:=by decide
 have:9007199254740992 < isq N+1:=sq_lt_iff.1 (by omega)
 omega
theorem tS_big (a:Nat) (h0:fK a ≠ 0):9007199254740992≤isq (rv (fR a) * 2 ^ 120):=by
 have hr:rv (fR a) ≠ 0:=fun e=>h0 ((fK_zero a).2 ((rv_eq0 _).1 e))
 refine big_sq (Nat.le_trans (show 2 ^ 106≤1 * 2 ^ 120 by decide) (Nat.mul_le_mul_right _ (by omega)))
theorem root_any (a m k p:Nat) (e:Int) (h0:fK a ≠ 0) (hm:m * 2 ^ k = rv (fR a)) (he:2 * e = (k:Int) - 1074 - p) (hq:9007199254740992≤isq (m * 2 ^ p)) :
  rnd (rS (m * 2 ^ p)) (e - 1) = tV a∧rflag (oM (rS (m * 2 ^ p):Nat)).natAbs (oE (rS (m * 2 ^ p):Nat) (e - 1)) = tF a:=by
 have:=root_two m k p (rv (fR a)) 0 120 e (-597) (by rw [hm];simp) he (by omega) hq (tS_big a h0)
 exact this
end Go.Proofs.YtnnfjeieennffaaGreatDoor
