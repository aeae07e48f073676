/- Part 24 of the texts. -/
import Derived.Test.YtlnphkioddknfaaGreatDoorParti23
import Derived.Test.YtlnphkioddknfaaGreatDoorParti20
import Derived.Test.YtlnphkioddknfaaGreatDoorParti17
import Derived.Test.YtlnphkioddknfaaGreatDoorParti18
import Derived.Deep.Cut
import Derived.BigQuiet
import Derived.Test.YtlnphkioddknfaaGreatDoorParti16
import Derived.Test.YtlnphkioddknfaaGreatDoorParti19
import Derived.Test.YtlnphkioddknfaaGreatDoorParti22
set_option maxHeartbeats 2000000
set_option maxRecDepth 20000
namespace Go.Proofs.YtlnphkioddknfaaGreatDoor
open Go.RowKit
theorem sqrtFinite_n (a n S o:Nat) (tp E M X fl:Int) (w:World) (ht:-3000≤tp∧tp≤3000) (hE:E = tp / 2 - 54 - 1) (hev:tp % 2 = 0)
  (C1:∀ w',Below w.heap.size w w'→Calls Tryz.prog 282 #[.int .u64 a] w' fun r w''=>r = .returned (.tuple #[.int .u64 (n:Nat),.int .i64 tp])∧Below w'.heap.size w' w'')
  (C3:∀ w',Calls Tryz.prog 283 #[.int .u64 (n:Nat)] w' fun r w''=>r = .returned (.int .i64 (S:Nat))∧Below w'.heap.size w' w'')
  (C4:∀ w',Calls Tryz.prog 230 #[.int .i64 (S:Nat)] w' fun r w''=>∃ v,r = .returned v∧IsNum w'.heap.size w'' v (S:Nat)∧Below w'.heap.size w' w'')
  (C5:∀ B w' v,Below w.heap.size w w'→IsNum B w' v (S:Nat)→Calls Tryz.prog 229 #[v,.int .i64 E] w' fun r w''=>DyR w'' r 0 M X∧Below w'.heap.size w' w'')
  (C6:∀ w' v,Below w.heap.size w w'→IsDy w' v M X→Calls Tryz.prog 205 #[v] w' fun s w''=>s = .returned (.tuple #[.int .u64 (o:Nat),.int .u8 fl,.int .i64 0])∧Below w'.heap.size w' w'') :
  Calls Tryz.prog 275 #[.int .u64 a] w fun s w'=>s = .returned (.tuple #[.int .u64 (o:Nat),.int .u8 fl])∧Below w.heap.size w w':=by
 have K1:=hide C1;have K3:=hide C3;have K4:=hide C4;have K5:=hide C5;have K6:=hide C6
 clear C1 C3 C4 C5 C6
 obtain ⟨q,hq⟩:∃ q,q = tp / 2:=⟨_,rfl⟩
 have t1:Int.tdiv tp 2 = q:=by rw [Int.tdiv_eq_ediv];omega
 have e1:=wrap_small (q - 54) (by omega)
 have e2:=wrap_small (q - 54 - 1) (by omega)
 rw [← hq] at hE
 have q1:-1500≤q:=by omega
 have q2:q≤1500:=by omega
 clear hq hev
 go_enter Tryz.func275,Tryz.ntmps275
 go_wp2_with fail
 refine (uH K1 _ (Below.refl _ _)).mono ?_
 rintro e w1 ⟨rfl,hb1⟩
 have B2:=hide hb1
 clear hb1 K1
 go_wp2_with fail
 refine (uH K3 _).mono ?_
 rintro e w2 ⟨rfl,hb1⟩
 have B2:=hide ((uH B2).trans (hb1.mono (uH B2).size))
 clear hb1 K3
 go_wp2_with fail
 refine (uH K4 _).mono ?_
 rintro e w3 ⟨v,rfl,⟨n3,a3,c3,L3,rfl,i3⟩,hb1⟩
 have B3:=hide ((uH B2).trans (hb1.mono (uH B2).size))
 have I3:=hide (show IsNum w2.heap.size w3 (.agg #[.bool n3,.slice a3 L3.length c3]) (S:Nat) from ⟨n3,a3,c3,L3,rfl,i3⟩)
 clear hb1 K4 B2 i3
 generalize L3.length = l3 at *
 subst hE
 go_wp2_with fail
 refine (uH K5 _ _ _ (uH B3) (uH I3)).mono ?_
 rintro e w4 ⟨⟨v,rfl,hv⟩,hb1⟩
 obtain ⟨n1,a1,c1,L1,rfl,i1⟩:=hv
 have hb1a:Below w4.heap.size w4 (w4.alloc (.cells #[.bool n1,.slice a1 L1.length c1,.int .i64 X] 47)):=(Below.refl _ _).alloc (Nat.le_refl _) _
 have HX:=hide ((show IsDy w4 (.agg #[.bool n1,.slice a1 L1.length c1,.int .i64 X]) M X from ⟨n1,a1,c1,L1,rfl,i1⟩).below hb1a)
 have B4:=hide ((uH B3).trans ((hb1.trans (hb1a.mono hb1.size)).mono (uH B3).size))
 have x3:=Box3.new w4 (.bool n1) (.slice a1 L1.length c1) (.int .i64 X)
 have y0:=x3.c0;have y1:=x3.c1;have y2:=x3.c2
 clear i1 hb1 hb1a K5 B3 x3 I3
 generalize L1.length = l1 at *
 go_wp2_with fail
 refine (uH K6 _ _ (uH B4) (uH HX)).mono ?_
 rintro e w5 ⟨rfl,hb1⟩
 have B5:=hide ((uH B4).trans (hb1.mono (uH B4).size))
 clear hb1 K6 B4 y0 y1 y2 HX
 go_wp2
 exact bodyPost_ret (v:=.tuple #[.int .u64 o,.int .u8 fl]) (by simp [results,Tryz.results275,go_sem]) rfl ⟨rfl,uH B5⟩
def tB (a:Nat):Nat:=rS (nS a * 4 ^ 22)
theorem tB_ne (a:Nat) (ha:a < 18446744073709551616) (fa:fFin a = true) (a0:fK a ≠ 0):tB a ≠ 0:=by
 obtain ⟨n1,n2⟩:=nS_facts a ha fa a0
 have h1:1≤nS a * 4 ^ 22:=Nat.mul_pos (by omega) (by decide)
 have h:=isq_mono h1
 have:isq 1 = 1:=by decide
 unfold tB rS
 omega
theorem tB_lt (a:Nat) (ha:a < 18446744073709551616) (fa:fFin a = true) (a0:fK a ≠ 0):tB a < 36028797018963968:=rS_54 (nS a) (nS_facts a ha fa a0).1
theorem tB_root (a:Nat) (ha:a < 18446744073709551616) (fa:fFin a = true) (a0:fK a ≠ 0) :
  rnd (tB a) (nT a / 2 - 54 - 1) = tV a∧rflag (oM (tB a:Nat)).natAbs (oE (tB a:Nat) (nT a / 2 - 54 - 1)) = tF a:=by
 have h:=nS_root a ha fa a0
 rw [show nT a / 2 - 55 = nT a / 2 - 54 - 1 by omega] at h
 exact h
theorem rootBehind_tB (a:Nat) (w:World) (ha:a < 18446744073709551616) (fa:fFin a = true) (a0:fK a ≠ 0) :
  Calls Tryz.prog 283 #[.int .u64 (nS a:Nat)] w fun e w'=>e = .returned (.int .i64 (tB a:Nat))∧Below w.heap.size w w':=rootBehind_any (nS a) w (nS_facts a ha fa a0).1
theorem sqrtFinite_of (a n S r:Nat) (tp E fl:Int) (w:World) (ht:-3000≤tp∧tp≤3000) (hev:tp % 2 = 0) (hE:E = tp / 2 - 54 - 1)
  (s1:S ≠ 0) (s2:S < 36028797018963968) (q1:rnd S E = r) (q2:rflag (oM (S:Nat)).natAbs (oE (S:Nat) E) = fl) (hT:Tab w)
  (C1:∀ w',Below w.heap.size w w'→Calls Tryz.prog 282 #[.int .u64 a] w' fun r w''=>r = .returned (.tuple #[.int .u64 (n:Nat),.int .i64 tp])∧Below w'.heap.size w' w'')
  (C3:∀ w',Calls Tryz.prog 283 #[.int .u64 (n:Nat)] w' fun r w''=>r = .returned (.int .i64 (S:Nat))∧Below w'.heap.size w' w'') :
  Calls Tryz.prog 275 #[.int .u64 a] w fun s w'=>s = .returned (.tuple #[.int .u64 (r:Nat),.int .u8 fl])∧Below w.heap.size w w':=by
 have hz:((S:Nat):Int).natAbs < TOP:=small_TOP _ (by omega)
 have hz0:((S:Nat):Int) ≠ 0:=by omega
 have htz:tz ((S:Nat):Int).natAbs < 57:=tz_lt _ 57 (by omega) (by rw [Int.natAbs_natCast];exact lt57 (by omega))
 have hE2:-2300≤E∧E≤2300:=by omega
 have hok:dOk (S:Nat) E = true:=by
  unfold dOk
  rw [decide_eq_true (show -32768≤E∧E≤32768 by omega),decide_eq_true (show -16384≤E+(tz ((S:Nat):Int).natAbs:Int)∧E+(tz ((S:Nat):Int).natAbs:Int)≤16384 by omega),Bool.or_true]
  rfl
 have hRt:dRt (oM (S:Nat)) (oE (S:Nat) E) = true:=by
  unfold dRt
  rw [if_neg (oM_ne _ hz0).1,oE_ne _ _ hz0,decide_eq_true (oM_ne _ hz0).2,decide_eq_true (by omega)]
  rfl
 have hle:(oM (S:Nat)).natAbs < TOP:=Nat.lt_of_le_of_lt (oM_le _) hz
 have C6:∀ w' v,Below w.heap.size w w'→IsDy w' v (oM (S:Nat)) (oE (S:Nat) E)→_:=fun w' v h hv=>round_dy hv hle hRt (hT.all h)
 rw [(rnd_odd ((S:Nat):Int) E).1,oM_sign,decide_eq_false (show ¬ ((S:Nat):Int) < 0 by omega),wrd_false,Int.natAbs_natCast,q1,q2] at C6
 refine sqrtFinite_n a n S r tp E _ _ _ w ht hE hev C1 C3
  (fun w'=>of_any _ w' (by omega) (by omega)) (fun B w' v h hv=>?_) C6
 have:=make_num E hv hz (by omega) (hT.all h)
 unfold dErr dM dX at this
 rw [hok] at this
 exact this.mono fun r w'' ⟨u,g1,g2,g3⟩=>⟨⟨u,g1,g2⟩,g3⟩
theorem sqrtFinite_any (a:Nat) (w:World) (ha:a < 18446744073709551616) (fa:fFin a = true) (a0:fK a ≠ 0) (hs:fS a = false) (hT:Tab w) :
  Calls Tryz.prog 275 #[.int .u64 a] w fun r w'=>r = .returned (.tuple #[.int .u64 (tV a:Nat),.int .u8 (tF a)])∧Below w.heap.size w w':=by
 obtain ⟨x1,x2,x3,x4,x5,x6,x7,x8⟩:=dS_facts a ha fa a0
 have hdT:dT a = (bl (fD a).natAbs:Int)+fX a:=rfl
 have hnT:nT a = dT a+dT a % 2:=rfl
 obtain ⟨q1,q2⟩:=tB_root a ha fa a0
 exact sqrtFinite_of a (nS a) (tB a) (tV a) (nT a) _ (tF a) w (by omega) (by omega) rfl (tB_ne a ha fa a0) (tB_lt a ha fa a0) q1 q2 hT (fun w' h=>rsize_any a w' ha fa a0 hs (hT.all h)) (fun w'=>rootBehind_tB a w' ha fa a0)
theorem rsqrt_z (a:Nat) (w:World) 
  (C1:∀ w',Calls Tryz.prog 103 #[.int .u64 a] w' fun r w''=>r = .returned (.int .i64 0)∧Below w'.heap.size w' w'') :
  Calls Tryz.prog 261 #[.int .u64 a] w fun r w'=>r = .returned (.tuple #[.int .u64 (a:Nat),.int .u8 0])∧Below w.heap.size w w':=by
 have K1:=hide C1
 clear C1
 go_enter Tryz.func261,Tryz.ntmps261
 go_wp2_with fail
 refine (uH K1 _).mono ?_
 rintro e w1 ⟨rfl,hb1⟩
 have B:=hide hb1
 clear hb1 K1
 go_wp2
 exact bodyPost_ret (v:=.tuple #[.int .u64 (a:Nat),.int .u8 0]) (by simp [results,Tryz.results261,go_sem]) rfl ⟨rfl,uH B⟩
theorem rsqrt_i (a:Nat) (k:Int) (w:World) (h0:(k == 0) = false) (h1:((a:Int) == 9218868437227405312) = true)
  (C1:∀ w',Calls Tryz.prog 103 #[.int .u64 a] w' fun r w''=>r = .returned (.int .i64 k)∧Below w'.heap.size w' w'') :
  Calls Tryz.prog 261 #[.int .u64 a] w fun r w'=>r = .returned (.tuple #[.int .u64 (a:Nat),.int .u8 0])∧Below w.heap.size w w':=by
 have K1:=hide C1
 clear C1
 go_enter Tryz.func261,Tryz.ntmps261
 go_wp2_with fail
 refine (uH K1 _).mono ?_
 rintro e w1 ⟨rfl,hb1⟩
 have B:=hide hb1
 clear hb1 K1
 go_wp2
 exact bodyPost_ret (v:=.tuple #[.int .u64 (a:Nat),.int .u8 0]) (by simp [results,Tryz.results261,go_sem]) rfl ⟨rfl,uH B⟩
theorem rsqrt_n (a:Nat) (w:World) (h1:((a:Int) == 9218868437227405312) = false)
  (C1:∀ w',Calls Tryz.prog 103 #[.int .u64 a] w' fun r w''=>r = .returned (.int .i64 4)∧Below w'.heap.size w' w'') :
  Calls Tryz.prog 261 #[.int .u64 a] w fun r w'=>r = .returned (.tuple #[.int .u64 9221120237041090560,.int .u8 0])∧Below w.heap.size w w':=by
 have K1:=hide C1
 clear C1
 go_enter Tryz.func261,Tryz.ntmps261
 go_wp2_with fail
 refine (uH K1 _).mono ?_
 rintro e w1 ⟨rfl,hb1⟩
 have B:=hide hb1
 clear hb1 K1
 go_wp2
 exact bodyPost_ret (v:=.tuple #[.int .u64 9221120237041090560,.int .u8 0]) (by simp [results,Tryz.results261,go_sem]) rfl ⟨rfl,uH B⟩
theorem rsqrt_m (a:Nat) (k:Int) (w:World) (h0:(k == 0) = false) (h4:k ≠ 4) (h1:((a:Int) == 9218868437227405312) = false)
  (C1:∀ w',Calls Tryz.prog 103 #[.int .u64 a] w' fun r w''=>r = .returned (.int .i64 k)∧Below w'.heap.size w' w'')
  (C2:∀ w',Calls Tryz.prog 118 #[.int .u64 a] w' fun r w''=>r = .returned (.bool true)∧Below w'.heap.size w' w'') :
  Calls Tryz.prog 261 #[.int .u64 a] w fun r w'=>r = .returned (.tuple #[.int .u64 9221120237041090560,.int .u8 16])∧Below w.heap.size w w':=by
 have K1:=hide C1
 clear C1
 go_enter Tryz.func261,Tryz.ntmps261
 go_wp2_with fail
 refine (uH K1 _).mono ?_
 rintro e w1 ⟨rfl,hb1⟩
 have B:=hide hb1
 clear hb1 K1
 have K2:=hide C2
 clear C2
 go_wp2_with fail
 refine (uH K2 _).mono ?_
 rintro e w2 ⟨rfl,hb1⟩
 have B:=hide ((uH B).trans (hb1.mono (uH B).size))
 clear hb1 K2
 go_wp2
 exact bodyPost_ret (v:=.tuple #[.int .u64 9221120237041090560,.int .u8 16]) (by simp [results,Tryz.results261,go_sem]) rfl ⟨rfl,uH B⟩
theorem rsqrt_f (a:Nat) (k fl:Int) (o:Nat) (w:World) (h0:(k == 0) = false) (h4:k ≠ 4) (h1:((a:Int) == 9218868437227405312) = false) (hT:Tab w)
  (C1:∀ w',Calls Tryz.prog 103 #[.int .u64 a] w' fun r w''=>r = .returned (.int .i64 k)∧Below w'.heap.size w' w'')
  (C2:∀ w',Calls Tryz.prog 118 #[.int .u64 a] w' fun r w''=>r = .returned (.bool false)∧Below w'.heap.size w' w'')
  (C3:∀ w',Tab w'→Calls Tryz.prog 275 #[.int .u64 a] w' fun r w''=>r = .returned (.tuple #[.int .u64 (o:Nat),.int .u8 fl])∧Below w'.heap.size w' w'') :
  Calls Tryz.prog 261 #[.int .u64 a] w fun r w'=>r = .returned (.tuple #[.int .u64 (o:Nat),.int .u8 fl])∧Below w.heap.size w w':=by
 have K1:=hide C1
 clear C1
 go_enter Tryz.func261,Tryz.ntmps261
 go_wp2_with fail
 refine (uH K1 _).mono ?_
 rintro e w1 ⟨rfl,hb1⟩
 have B:=hide hb1
 clear hb1 K1
 have K2:=hide C2
 clear C2
 go_wp2_with fail
 refine (uH K2 _).mono ?_
 rintro e w2 ⟨rfl,hb1⟩
 have B:=hide ((uH B).trans (hb1.mono (uH B).size))
 clear hb1 K2
 have K3:=hide C3;have HT:=hide (hT.all (uH B))
 clear C3 hT
 go_wp2_with fail
 refine (uH K3 _ (uH HT)).mono ?_
 rintro e w3 ⟨rfl,hb1⟩
 have B:=hide ((uH B).trans (hb1.mono (uH B).size))
 clear hb1 K3 HT
 go_wp2
 exact bodyPost_ret (v:=.tuple #[.int .u64 (o:Nat),.int .u8 fl]) (by simp [results,Tryz.results261,go_sem]) rfl ⟨rfl,uH B⟩
theorem rsqrt_any (a:Nat) (w:World) (ha:a < 18446744073709551616) (hT:Tab w) :
  Calls Tryz.prog 261 #[.int .u64 a] w fun r w'=>r = .returned (.tuple #[.int .u64 (sV a:Nat),.int .u8 (sF a)])∧Below w.heap.size w w':=by
 have C1:=fun w'=>kind_any a w' ha
 have C2:=fun w'=>ssign_any a w' ha
 by_cases a4:fK a = 4
 ·rw [show sV a = 9221120237041090560 by unfold sV;rw [if_pos a4],show sF a = 0 by unfold sF;rw [if_pos a4]]
  rw [a4] at C1
  have hne:a ≠ 9218868437227405312:=fun h=>by rw [h] at a4;revert a4;decide
  exact rsqrt_n a w (by simp;omega) C1
 by_cases a0:fK a = 0
 ·rw [show sV a = a by unfold sV;rw [if_neg a4,if_pos (Or.inl a0)],show sF a = 0 by unfold sF;rw [if_neg a4,if_pos (Or.inl a0)]]
  rw [a0] at C1
  exact rsqrt_z a w C1
 by_cases aI:a = 9218868437227405312
 ·rw [show sV a = a by unfold sV;rw [if_neg a4,if_pos (Or.inr aI)],show sF a = 0 by unfold sF;rw [if_neg a4,if_pos (Or.inr aI)]]
  exact rsqrt_i a _ w (by simp [a0]) (by simp;omega) C1
 have hne:¬ (fK a = 0 ∨ a = 9218868437227405312):=by omega
 cases hs:fS a
 ·rw [show sV a = tV a by unfold sV;rw [if_neg a4,if_neg hne,if_neg (by rw [hs];decide)],show sF a = tF a by unfold sF;rw [if_neg a4,if_neg hne,if_neg (by rw [hs];decide)]]
  rw [hs] at C2
  have a3:fK a ≠ 3:=fun h=>aI (by
   have:=b_wrd a ha
   rw [hs,wrd_false] at this
   have h3:=((fK_rungs a).2.1.1 h)
   omega)
  exact rsqrt_f a _ _ _ w (by simp [a0]) a4 (by simp;omega) hT C1 C2 (fun w' t=>sqrtFinite_any a w' ha (fin_of a a3 a4) a0 hs t)
 ·rw [show sV a = 9221120237041090560 by unfold sV;rw [if_neg a4,if_neg hne,if_pos hs],show sF a = 16 by unfold sF;rw [if_neg a4,if_neg hne,if_pos hs]]
  rw [hs] at C2
  exact rsqrt_m a _ w (by simp [a0]) a4 (by simp;omega) C1 C2
end Go.Proofs.YtlnphkioddknfaaGreatDoor
namespace Go.Proofs.YtlnphkioddknfaaGreatDoor
open Go.RowKit
def BitsAt (w:World) (ao:Option Addr) (cap:Nat) (I:List Int):Prop :=
 I.length≤cap∧(∀ x ∈ I,0≤x∧x≤18446744073709551615)∧(I = [] ∨ ∃ b off,ao = some ⟨b,off,none⟩∧b < w.heap.size∧∀ i,i < I.length→w.cell? ⟨b,off+i,none⟩ = some (.int .u64 (I[i]?.getD 0)))
theorem BitsAt.below {w w':World} {ao:Option Addr} {cap:Nat} {I:List Int} (h:BitsAt w ao cap I) (hb:Below w.heap.size w w'):BitsAt w' ao cap I:=by
 refine ⟨h.1,h.2.1,?_⟩
 rcases h.2.2 with h | ⟨b,off,h1,h2,h3⟩
 ·exact .inl h
 ·refine .inr ⟨b,off,h1,Nat.lt_of_lt_of_le h2 hb.size,fun i hi=>?_⟩
  rw [hb.cell (p:=⟨b,off+i,none⟩) h2]
  exact h3 i hi
def atB (I:List Int) (j:Nat):Nat:=(I[j]?.getD 0).toNat
theorem BitsAt.wf {w:World} {ao:Option Addr} {cap:Nat} {I:List Int} (h:BitsAt w ao cap I) (j:Nat):I[j]?.getD 0 = (atB I j:Int)∧atB I j < 18446744073709551616:=by
 unfold atB
 by_cases hi:j < I.length
 ·have:=h.2.1 _ (List.getElem_mem hi)
  rw [List.getElem?_eq_getElem hi]
  simp only [Option.getD_some]
  omega
 ·rw [List.getElem?_eq_none (by omega)];simp
theorem BitsAt.ne {w:World} {ao:Option Addr} {cap:Nat} {I:List Int} (h:BitsAt w ao cap I) (h0:0 < I.length):∃ b off,ao = some ⟨b,off,none⟩∧b < w.heap.size∧∀ i,i < I.length→w.cell? ⟨b,off+i,none⟩ = some (.int .u64 (atB I i:Int)):=by
 rcases h.2.2 with e | ⟨b,off,e1,e2,e3⟩
 ·rw [e] at h0;simp at h0
 ·exact ⟨b,off,e1,e2,fun i hi=>by rw [e3 i hi,(h.wf i).1]⟩
end Go.Proofs.YtlnphkioddknfaaGreatDoor
namespace Go.Proofs.YtlnphkioddknfaaGreatDoor
open Go.RowKit
def p2 (e:Int):Rat:=(2:Rat) ^ e
end Go.Proofs.YtlnphkioddknfaaGreatDoor
namespace Go.Proofs.YtlnphkioddknfaaGreatDoor
open Go.RowKit
def fQ (a:Nat):Rat:=(fZ a:Rat) * p2 (-1074)
end Go.Proofs.YtlnphkioddknfaaGreatDoor
namespace Go.Proofs.YtlnphkioddknfaaGreatDoor
open Go.RowKit
def sqV (k:Int) (s x:Nat):Nat:=aV s (mV (xV x (-k)) (xV x (-k)))
end Go.Proofs.YtlnphkioddknfaaGreatDoor
