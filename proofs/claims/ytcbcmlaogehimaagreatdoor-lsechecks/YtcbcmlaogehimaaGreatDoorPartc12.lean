/- Part 12 of the texts. -/
import Derived.Test.YtcbcmlaogehimaaGreatDoorPartc11
import Derived.Deep.Cut
set_option maxHeartbeats 4000000
namespace Go.Proofs.YtcbcmlaogehimaaGreatDoor
open Go.RowKit
theorem rvalue_any (b:Nat) (w:World) (h:b < 18446744073709551616) :
  Calls Tryz.prog 60 #[.int .u64 b] w fun r w'=>∃ u,r = .returned u∧IsDy w' u (fD b) (fX b)∧Below w.heap.size w w':=by
 have CF:=fun w'=>rfrac_any b w' h
 have CP:=fun w'=>rpower_any b w' h
 have CN:=fun w'=>rneg4_any b w' h
 have hf:=fF_lt b
 have hp:=fP_lt b
 have hE:=fE_in b
 have hfd:fD b = oM (fM b):=rfl
 have hfx:fX b = oE (fM b) (fE b):=rfl
 have hM:fM b = sg (fS b) (fA b):=rfl
 rw [hfd,hfx]
 by_cases h0:fP b = 0
 ·have hE0:fE b = -1074:=by unfold fE;rw [if_pos h0]
  have hA0:fA b = fF b:=by unfold fA;rw [if_pos h0]
  rw [h0] at CP
  have hw:IntKind.i64.wrap (fF b:Int) = (fF b:Int):=by simp only [IntKind.wrap_i64];omega
  cases hs:fS b with
  | false =>
   rw [hs] at CN hM
   have hm:(fF b:Int) = fM b:=by rw [hM,hA0];rfl
   exact rvalue_zo b (fF b) (fF b:Int) (fM b) (fE b) _ _ w hw CF CP CN (fun w'=>refOf_any _ w' (by omega) (by omega)) (fun w' v hv=>rof_small (fE b) hv (by decide) (by omega)) hE0 hm
  | true =>
   rw [hs] at CN hM
   have hm:(fF b:Int) = - fM b:=by rw [hM,hA0];simp [sg]
   refine rvalue_zn b (fF b) (fF b:Int) (fF b:Int) (fE b) _ _ w hw CF CP CN (fun w'=>refOf_any _ w' (by omega) (by omega)) (fun w' v hv=>?_) hE0 rfl
   have:-(fF b:Int) = fM b:=by omega
   rw [this] at hv
   exact rof_small (fE b) hv (by decide) (by omega)
 ·have hE0:fE b = (fP b:Int) - 1075:=by unfold fE;rw [if_neg h0]
  have hA0:fA b = fF b+4503599627370496:=by unfold fA;rw [if_neg h0]
  have hw:IntKind.i64.wrap (fF b:Int) = (fF b:Int):=by simp only [IntKind.wrap_i64];omega
  have w1:IntKind.u64.wrap ((fF b:Int)+4503599627370496) = (fA b:Int):=by simp only [IntKind.wrap_u64];omega
  have w2:IntKind.i64.wrap (fA b:Int) = (fA b:Int):=by simp only [IntKind.wrap_i64];omega
  have w3:IntKind.i64.wrap ((fP b:Int) - 1075) = fE b:=by simp only [IntKind.wrap_i64];omega
  have hl:=fA_lt b
  cases hs:fS b with
  | false =>
   rw [hs] at CN hM
   have hm:(fA b:Int) = fM b:=by rw [hM];rfl
   refine rvalue_po b (fP b) (fF b) (fF b:Int) (fA b:Int) (fA b:Int) (fE b) _ _ w (by omega) hw CF CP CN (fun w'=>refOf_any _ w' (by omega) (by omega)) (fun w' v hv=>?_) w1 w2 w3 (fun w'=>refOf_any _ w' (by omega) (by omega))
   rw [hm] at hv
   exact rof_small (fE b) hv (by decide) (by omega)
  | true =>
   rw [hs] at CN hM
   have hm:-(fA b:Int) = fM b:=by rw [hM];simp [sg]
   refine rvalue_pn b (fP b) (fF b) (fF b:Int) (fA b:Int) (fA b:Int) (fE b) _ _ w (by omega) hw CF CP CN (fun w'=>refOf_any _ w' (by omega) (by omega)) (fun w' v hv=>?_) w1 w2 w3 (fun w'=>refOf_any _ w' (by omega) (by omega))
   rw [hm] at hv
   exact rof_small (fE b) hv (by decide) (by omega)
theorem lenL_bl {L:List Nat} {n:Bool} (hf:Fits L) (hr:rightB n L = true):lenL L = (bl (val L):Int):=by
 rw [lenL_bits]
 by_cases h0:L = []
 ·subst h0;rfl
 ·obtain ⟨a1,a2,a3⟩:=bits_spec L hf (right_canon hr).2.1 h0
  rw [bl_of a1 a2 a3]
end Go.Proofs.YtcbcmlaogehimaaGreatDoor
namespace Go.Proofs.YtcbcmlaogehimaaGreatDoor
open Go.RowKit
theorem small_num {B:Nat} {w:World} {v:Value} {z:Int} (hv:IsNum B w v z) (hz:-9223372036854775808≤z∧z≤9223372036854775807) :
  Calls Tryz.prog 290 #[v] w fun e w'=>e = .returned (.tuple #[.int .i64 z,.int .i64 0])∧Below w.heap.size w w':=by
 obtain ⟨na,ao,ca,A,rfl,a1,a2,a3,_⟩:=hv.right (lt_TOP (k:=64) (by have:(2:Nat) ^ 64 = 18446744073709551616:=(by decide);omega) (by decide))
 have h:=small_any na ao ca A w a1 (by have:=(right_canon a2).1;omega)
 have hf:fits64 (sval na A) = true:=by unfold fits64;rw [a3];exact decide_eq_true hz
 have e1:smV na A = z:=by unfold smV;rw [a2,hf];simpa using a3
 have e2:smE na A = 0:=by unfold smE;rw [a2,hf];rfl
 rw [e1,e2] at h
 exact h
theorem bits_and1 (n:Nat) (h:n < 1152921504606846976):bits .and .i64 (n:Int) 1 = ((n % 2:Nat):Int):=by
 have h1:=Go.bits_nat .i64 62 (by decide) (fun x h0 h1=>by rw [IntKind.wrap_i64];simp at h1;omega) n 1 (by simp;omega) (by decide)
 have h2:=h1.1
 refine h2.trans ?_
 rw [Nat.and_one_is_mod]
theorem bits_and2 (n:Nat) (h:n < 1152921504606846976):bits .and .i64 (n:Int) 2 = ((2 * (n / 2 % 2):Nat):Int):=by
 have h1:=Go.bits_nat .i64 62 (by decide) (fun x h0 h1=>by rw [IntKind.wrap_i64];simp at h1;omega) n 2 (by simp;omega) (by decide)
 have h2:=h1.1
 refine h2.trans ?_
 have e1:(n &&& 2) % 2 = 0:=by
  have:=Nat.and_mod_two_pow (a:=n) (b:=2) (n:=1)
  simpa using this
 have e2:(n &&& 2) / 2 = (n / 2) &&& 1:=by
  have:=Nat.and_div_two_pow (a:=n) (b:=2) (n:=1)
  simpa using this
 rw [Nat.and_one_is_mod] at e2
 have:=Nat.div_add_mod (n &&& 2) 2
 rw [e1,e2] at this
 congr 1
 omega
theorem roundAt_a (na:Bool) (ao:Option Addr) (ca l N:Nat) (E last:Int) (q:Bool) (w:World) (hE:-20000≤E∧E≤20000) (hL:-20000≤last∧last≤20000) (hN0:(0:Int)≤N) (hN:(N:Int) < 1152921504606846976)
  (CS:∀ w',Below w.heap.size w w'→Calls Tryz.prog 238 #[.agg #[.bool false,.slice ao l ca],.int .i64 (E - last+1)] w' fun e w''=>∃ v,e = .returned (.tuple #[v,.int .i64 0])∧IsNum w'.heap.size w'' v N∧Below w'.heap.size w' w'')
  (p1:bits .and .i64 (N:Int) 1 = 0) (t1:(E == last - 1) = q) :
  Calls Tryz.prog 281 #[.agg #[.bool na,.slice ao l ca,.int .i64 E],.int .i64 last] w fun e w'=>e = .returned (.int .u64 ((N / 2:Nat):Int))∧Below w.heap.size w w':=by
 have KS:=hide CS
 clear CS
 obtain ⟨r1,r2⟩:=hE
 obtain ⟨r3,r4⟩:=hL
 have hb0:Below w.heap.size w ((w.alloc (.cells #[.bool na,.slice ao l ca,.int .i64 E] 35)).alloc (.cells #[.bool false,.slice ao l ca] 33)):=((Below.refl _ _).alloc (Nat.le_refl _) _).alloc (by simp) _
 have B0:=hide hb0
 have X0:=hide (show Box3 ((w.alloc (.cells #[.bool na,.slice ao l ca,.int .i64 E] 35)).alloc (.cells #[.bool false,.slice ao l ca] 33)) w.heap.size (.bool na) (.slice ao l ca) (.int .i64 E) from (Box3.new _ _ _ _).old _)
 clear hb0
 go_enter Tryz.func281,Tryz.ntmps281
 go_wp2_with fail
 refine (uH KS _ (uH B0)).mono ?_
 rintro e w1 ⟨v,rfl,hv,hb1⟩
 have b1:=(uH B0).trans (hb1.mono (uH B0).size)
 have x1:=(uH X0).all hb1
 obtain ⟨n1,a1,c1,L1,rfl,i1⟩:=hv
 have hb2:Below w1.heap.size w1 (w1.alloc (.cells #[.bool n1,.slice a1 L1.length c1] 33)):=(Below.refl _ _).alloc (Nat.le_refl _) _
 have HV:=hide ((show IsNum 0 w1 (.agg #[.bool n1,.slice a1 L1.length c1]) N from ⟨n1,a1,c1,L1,rfl,i1.1,NewAt.zero i1.1,i1.2.2⟩).below hb2)
 have B2:=hide (b1.trans (hb2.mono b1.size))
 have X2:=hide (x1.all hb2)
 clear hb1 b1 x1 i1 hb2 B0 X0 KS
 generalize L1.length = l1 at *
 go_wp2_with fail
 refine (small_num (uH HV) (by omega)).mono ?_
 rintro e w3 ⟨rfl,hb3⟩
 have x3:=(uH X2).all hb3
 have B3:=hide ((uH B2).trans (hb3.mono (uH B2).size))
 have y0:=x3.c0;have y1:=x3.c1;have y2:=x3.c2
 clear hb3 x3 X2 B2 HV
 go_wp2
 go_ret
 exact ⟨rfl,uH B3⟩
theorem roundAt_b (na:Bool) (ao:Option Addr) (ca l N:Nat) (E last:Int) (w:World) (hE:-20000≤E∧E≤20000) (hL:-20000≤last∧last≤20000) (hN0:(0:Int)≤N) (hN:(N:Int) < 1152921504606846976)
  (CS:∀ w',Below w.heap.size w w'→Calls Tryz.prog 238 #[.agg #[.bool false,.slice ao l ca],.int .i64 (E - last+1)] w' fun e w''=>∃ v,e = .returned (.tuple #[v,.int .i64 0])∧IsNum w'.heap.size w'' v N∧Below w'.heap.size w' w'')
  (p1:bits .and .i64 (N:Int) 1 = 1) (t1:(E == last - 1) = false) :
  Calls Tryz.prog 281 #[.agg #[.bool na,.slice ao l ca,.int .i64 E],.int .i64 last] w fun e w'=>e = .returned (.int .u64 (((N+1) / 2:Nat):Int))∧Below w.heap.size w w':=by
 have KS:=hide CS
 clear CS
 obtain ⟨r1,r2⟩:=hE
 obtain ⟨r3,r4⟩:=hL
 have hb0:Below w.heap.size w ((w.alloc (.cells #[.bool na,.slice ao l ca,.int .i64 E] 35)).alloc (.cells #[.bool false,.slice ao l ca] 33)):=((Below.refl _ _).alloc (Nat.le_refl _) _).alloc (by simp) _
 have B0:=hide hb0
 have X0:=hide (show Box3 ((w.alloc (.cells #[.bool na,.slice ao l ca,.int .i64 E] 35)).alloc (.cells #[.bool false,.slice ao l ca] 33)) w.heap.size (.bool na) (.slice ao l ca) (.int .i64 E) from (Box3.new _ _ _ _).old _)
 clear hb0
 go_enter Tryz.func281,Tryz.ntmps281
 go_wp2_with fail
 refine (uH KS _ (uH B0)).mono ?_
 rintro e w1 ⟨v,rfl,hv,hb1⟩
 have b1:=(uH B0).trans (hb1.mono (uH B0).size)
 have x1:=(uH X0).all hb1
 obtain ⟨n1,a1,c1,L1,rfl,i1⟩:=hv
 have hb2:Below w1.heap.size w1 (w1.alloc (.cells #[.bool n1,.slice a1 L1.length c1] 33)):=(Below.refl _ _).alloc (Nat.le_refl _) _
 have HV:=hide ((show IsNum 0 w1 (.agg #[.bool n1,.slice a1 L1.length c1]) N from ⟨n1,a1,c1,L1,rfl,i1.1,NewAt.zero i1.1,i1.2.2⟩).below hb2)
 have B2:=hide (b1.trans (hb2.mono b1.size))
 have X2:=hide (x1.all hb2)
 clear hb1 b1 x1 i1 hb2 B0 X0 KS
 generalize L1.length = l1 at *
 go_wp2_with fail
 refine (small_num (uH HV) (by omega)).mono ?_
 rintro e w3 ⟨rfl,hb3⟩
 have x3:=(uH X2).all hb3
 have B3:=hide ((uH B2).trans (hb3.mono (uH B2).size))
 have y0:=x3.c0;have y1:=x3.c1;have y2:=x3.c2
 clear hb3 x3 X2 B2 HV
 go_wp2
 go_ret
 exact ⟨rfl,uH B3⟩
theorem roundAt_c (na:Bool) (ao:Option Addr) (ca l N:Nat) (E last:Int) (w:World) (hE:-20000≤E∧E≤20000) (hL:-20000≤last∧last≤20000) (hN0:(0:Int)≤N) (hN:(N:Int) < 1152921504606846976)
  (CS:∀ w',Below w.heap.size w w'→Calls Tryz.prog 238 #[.agg #[.bool false,.slice ao l ca],.int .i64 (E - last+1)] w' fun e w''=>∃ v,e = .returned (.tuple #[v,.int .i64 0])∧IsNum w'.heap.size w'' v N∧Below w'.heap.size w' w'')
  (p1:bits .and .i64 (N:Int) 1 = 1) (t1:(E == last - 1) = true) (p2:bits .and .i64 (N:Int) 2 = 2) :
  Calls Tryz.prog 281 #[.agg #[.bool na,.slice ao l ca,.int .i64 E],.int .i64 last] w fun e w'=>e = .returned (.int .u64 (((N+1) / 2:Nat):Int))∧Below w.heap.size w w':=by
 have KS:=hide CS
 clear CS
 obtain ⟨r1,r2⟩:=hE
 obtain ⟨r3,r4⟩:=hL
 have hb0:Below w.heap.size w ((w.alloc (.cells #[.bool na,.slice ao l ca,.int .i64 E] 35)).alloc (.cells #[.bool false,.slice ao l ca] 33)):=((Below.refl _ _).alloc (Nat.le_refl _) _).alloc (by simp) _
 have B0:=hide hb0
 have X0:=hide (show Box3 ((w.alloc (.cells #[.bool na,.slice ao l ca,.int .i64 E] 35)).alloc (.cells #[.bool false,.slice ao l ca] 33)) w.heap.size (.bool na) (.slice ao l ca) (.int .i64 E) from (Box3.new _ _ _ _).old _)
 clear hb0
 go_enter Tryz.func281,Tryz.ntmps281
 go_wp2_with fail
 refine (uH KS _ (uH B0)).mono ?_
 rintro e w1 ⟨v,rfl,hv,hb1⟩
 have b1:=(uH B0).trans (hb1.mono (uH B0).size)
 have x1:=(uH X0).all hb1
 obtain ⟨n1,a1,c1,L1,rfl,i1⟩:=hv
 have hb2:Below w1.heap.size w1 (w1.alloc (.cells #[.bool n1,.slice a1 L1.length c1] 33)):=(Below.refl _ _).alloc (Nat.le_refl _) _
 have HV:=hide ((show IsNum 0 w1 (.agg #[.bool n1,.slice a1 L1.length c1]) N from ⟨n1,a1,c1,L1,rfl,i1.1,NewAt.zero i1.1,i1.2.2⟩).below hb2)
 have B2:=hide (b1.trans (hb2.mono b1.size))
 have X2:=hide (x1.all hb2)
 clear hb1 b1 x1 i1 hb2 B0 X0 KS
 generalize L1.length = l1 at *
 go_wp2_with fail
 refine (small_num (uH HV) (by omega)).mono ?_
 rintro e w3 ⟨rfl,hb3⟩
 have x3:=(uH X2).all hb3
 have B3:=hide ((uH B2).trans (hb3.mono (uH B2).size))
 have y0:=x3.c0;have y1:=x3.c1;have y2:=x3.c2
 clear hb3 x3 X2 B2 HV
 go_wp2
 go_ret
 exact ⟨rfl,uH B3⟩
theorem roundAt_d (na:Bool) (ao:Option Addr) (ca l N:Nat) (E last:Int) (w:World) (hE:-20000≤E∧E≤20000) (hL:-20000≤last∧last≤20000) (hN0:(0:Int)≤N) (hN:(N:Int) < 1152921504606846976)
  (CS:∀ w',Below w.heap.size w w'→Calls Tryz.prog 238 #[.agg #[.bool false,.slice ao l ca],.int .i64 (E - last+1)] w' fun e w''=>∃ v,e = .returned (.tuple #[v,.int .i64 0])∧IsNum w'.heap.size w'' v N∧Below w'.heap.size w' w'')
  (p1:bits .and .i64 (N:Int) 1 = 1) (t1:(E == last - 1) = true) (p2:bits .and .i64 (N:Int) 2 = 0) :
  Calls Tryz.prog 281 #[.agg #[.bool na,.slice ao l ca,.int .i64 E],.int .i64 last] w fun e w'=>e = .returned (.int .u64 ((N / 2:Nat):Int))∧Below w.heap.size w w':=by
 have KS:=hide CS
 clear CS
 obtain ⟨r1,r2⟩:=hE
 obtain ⟨r3,r4⟩:=hL
 have hb0:Below w.heap.size w ((w.alloc (.cells #[.bool na,.slice ao l ca,.int .i64 E] 35)).alloc (.cells #[.bool false,.slice ao l ca] 33)):=((Below.refl _ _).alloc (Nat.le_refl _) _).alloc (by simp) _
 have B0:=hide hb0
 have X0:=hide (show Box3 ((w.alloc (.cells #[.bool na,.slice ao l ca,.int .i64 E] 35)).alloc (.cells #[.bool false,.slice ao l ca] 33)) w.heap.size (.bool na) (.slice ao l ca) (.int .i64 E) from (Box3.new _ _ _ _).old _)
 clear hb0
 go_enter Tryz.func281,Tryz.ntmps281
 go_wp2_with fail
 refine (uH KS _ (uH B0)).mono ?_
 rintro e w1 ⟨v,rfl,hv,hb1⟩
 have b1:=(uH B0).trans (hb1.mono (uH B0).size)
 have x1:=(uH X0).all hb1
 obtain ⟨n1,a1,c1,L1,rfl,i1⟩:=hv
 have hb2:Below w1.heap.size w1 (w1.alloc (.cells #[.bool n1,.slice a1 L1.length c1] 33)):=(Below.refl _ _).alloc (Nat.le_refl _) _
 have HV:=hide ((show IsNum 0 w1 (.agg #[.bool n1,.slice a1 L1.length c1]) N from ⟨n1,a1,c1,L1,rfl,i1.1,NewAt.zero i1.1,i1.2.2⟩).below hb2)
 have B2:=hide (b1.trans (hb2.mono b1.size))
 have X2:=hide (x1.all hb2)
 clear hb1 b1 x1 i1 hb2 B0 X0 KS
 generalize L1.length = l1 at *
 go_wp2_with fail
 refine (small_num (uH HV) (by omega)).mono ?_
 rintro e w3 ⟨rfl,hb3⟩
 have x3:=(uH X2).all hb3
 have B3:=hide ((uH B2).trans (hb3.mono (uH B2).size))
 have y0:=x3.c0;have y1:=x3.c1;have y2:=x3.c2
 clear hb3 x3 X2 B2 HV
 go_wp2
 go_ret
 exact ⟨rfl,uH B3⟩
end Go.Proofs.YtcbcmlaogehimaaGreatDoor
namespace Go.Proofs.YtcbcmlaogehimaaGreatDoor
open Go.RowKit
theorem drB_val {n:Bool} {L:List Nat} {e:Int} (h:drB n L e = true) (h0:L ≠ []):val L % 2 = 1:=by
 unfold drB at h
 have hl:L.length ≠ 0:=fun h1=>h0 (List.length_eq_zero_iff.1 h1)
 rw [if_neg hl] at h
 simp only [Bool.and_eq_true,decide_eq_true_eq] at h
 exact h.2.1
theorem rightB_pos {n:Bool} {L:List Nat} (h:rightB n L = true):rightB false L = true:=by
 unfold rightB at *
 revert h
 cases n <;> simp
 intro h1 h2 h3
 exact ⟨h1,h3⟩
theorem shift_pN {na:Bool} {A:List Nat} (j:Int) (hr:rightB na A = true) (hj:-16384≤j+1∧j+1≤16384) (hN:pN (val A) j < 1152921504606846976) :
  shE false A (j+1) = 0∧shN false A (j+1) = (pN (val A) j:Int):=by
 have hok:shOk false A (j+1) = true:=by unfold shOk;rw [rightB_pos hr,decide_eq_true hj];rfl
 have hv:shV false A (j+1) = (pN (val A) j:Int):=by unfold shV pN sg;rfl
 have ht:(shV false A (j+1)).natAbs < TOP:=by
  rw [hv]
  exact lt_TOP (k:=60) (by have:(2:Nat) ^ 60 = 1152921504606846976:=(by decide);omega) (by decide)
 unfold shE shN
 rw [if_pos hok,if_pos hok,errOf_small _ ht,numOf_small _ ht,hv]
 exact ⟨rfl,rfl⟩
theorem roundAt_any (na:Bool) (ao:Option Addr) (ca:Nat) (A:List Nat) (E last:Int) (w:World) (hA:LimbsAt w ao ca A) (hr:drB na A E = true) (h0:A ≠ []) (hL:-2000≤last∧last≤2000) (hj:-16384≤E - last+1∧E - last+1≤16384) (hN:pN (val A) (E - last) < 1152921504606846976) :
  Calls Tryz.prog 281 #[.agg #[.bool na,.slice ao A.length ca,.int .i64 E],.int .i64 last] w fun e w'=>e = .returned (.int .u64 (mS (val A) (E - last):Nat))∧Below w.heap.size w w':=by
 obtain ⟨d1,d2,d3,d4,d5⟩:=drB_bounds hr
 have ho:=drB_val hr h0
 obtain ⟨s1,s2⟩:=shift_pN (E - last) d1 hj hN
 have CS:∀ w',Below w.heap.size w w'→Calls Tryz.prog 238 #[.agg #[.bool false,.slice ao A.length ca],.int .i64 (E - last+1)] w' fun e w''=>∃ v,e = .returned (.tuple #[v,.int .i64 0])∧IsNum w'.heap.size w'' v (pN (val A) (E - last))∧Below w'.heap.size w' w'':=by
  intro w' hb
  have:=shift_any false ao ca A (E - last+1) w' (hA.below hb) (by omega) (by omega)
  rw [s1,s2] at this
  exact this
 have b1:=bits_and1 _ hN
 have b2:=bits_and2 _ hN
 rw [← pM_mS _ _ ho]
 have hpm:pM (val A) (E - last) = (pN (val A) (E - last)+(pUp (val A) (E - last)).toNat) / 2:=rfl
 have hpu:pUp (val A) (E - last) = (decide (pN (val A) (E - last) % 2 = 1) && (!decide (E - last = -1) || decide (pN (val A) (E - last) / 2 % 2 = 1))):=rfl
 rw [hpm,hpu]
 generalize pN (val A) (E - last) = N at *
 have hE:-20000≤E∧E≤20000:=by omega
 have hL':-20000≤last∧last≤20000:=by omega
 by_cases c1:N % 2 = 1
 ·rw [c1] at b1
  rw [decide_eq_true c1]
  by_cases c2:E - last = -1
  ·have t1:(E == last - 1) = true:=by simp;omega
   rw [decide_eq_true c2]
   by_cases c3:N / 2 % 2 = 1
   ·rw [c3] at b2
    rw [decide_eq_true c3]
    exact roundAt_c na ao ca A.length N E last w hE hL' (by omega) (by omega) CS b1 t1 b2
   ·have c3':N / 2 % 2 = 0:=by omega
    rw [c3'] at b2
    rw [decide_eq_false c3]
    exact roundAt_d na ao ca A.length N E last w hE hL' (by omega) (by omega) CS b1 t1 b2
  ·have t1:(E == last - 1) = false:=by simp;omega
   rw [decide_eq_false c2]
   exact roundAt_b na ao ca A.length N E last w hE hL' (by omega) (by omega) CS b1 t1
 ·have c1':N % 2 = 0:=by omega
  rw [c1'] at b1
  rw [decide_eq_false c1]
  exact roundAt_a na ao ca A.length N E last _ w hE hL' (by omega) (by omega) CS b1 rfl
end Go.Proofs.YtcbcmlaogehimaaGreatDoor
namespace Go.Proofs.YtcbcmlaogehimaaGreatDoor
open Go.RowKit
theorem pN_lt (v:Nat) (E:Int) (h:v ≠ 0):pN v (E - lastE v E) < 1152921504606846976:=by
 obtain ⟨l1,l2,l3⟩:=lastE_ge v E
 obtain ⟨a1,a2,a3⟩:=bl_spec v h
 generalize lastE v E = l at *
 have h54:(2:Nat) ^ 54 < 1152921504606846976:=by decide
 unfold pN
 split
 ·obtain ⟨k,hk⟩:=Int.eq_ofNat_of_zero_le (show 0≤E - l+1 by omega)
  rw [hk,Int.toNat_natCast]
  have h1:v * 2 ^ k < 2 ^ bl v * 2 ^ k:=Nat.mul_lt_mul_of_pos_right a3 (Nat.two_pow_pos _)
  rw [← Nat.pow_add] at h1
  have h2:(2:Nat) ^ (bl v+k)≤2 ^ 54:=pow_le2 (by omega)
  omega
 ·obtain ⟨k,hk⟩:=Int.eq_ofNat_of_zero_le (show 0≤-(E - l+1) by omega)
  rw [hk,Int.toNat_natCast]
  have h1:v < 2 ^ 54 * 2 ^ k:=by
   rw [← Nat.pow_add]
   exact Nat.lt_of_lt_of_le a3 (pow_le2 (by omega))
  have h2:v / 2 ^ k < 2 ^ 54:=Nat.div_lt_of_lt_mul (by rw [Nat.mul_comm];exact h1)
  omega
theorem max2_run (P:Program) (w:World) (ts:Array TypeId) (t:TypeId) (x y:Int):(Builtin.max_ ts t #[.int .i64 x,.int .i64 y]).run P w = .ok (.int .i64 (max x y)) w:=by
 rw [run_max_int2]
 congr 2
 split <;> omega
theorem roundSize_e (na:Bool) (ao:Option Addr) (ca l M k R:Nat) (E t last:Int) (w:World) (h0:0 < l) (ht:-100000≤t∧t≤1024) (hl:max (t - 53) (-1074) = last) (hk:last+1074 = k) (hk2:k≤2045) (hM:M≤9007199254740992)
  (CT:∀ w',Below w.heap.size w w'→Calls Tryz.prog 169 #[.agg #[.bool na,.slice ao l ca,.int .i64 E]] w' fun e w''=>e = .returned (.int .i64 t)∧Below w'.heap.size w' w'')
  (CR:∀ w',Below w.heap.size w w'→Calls Tryz.prog 281 #[.agg #[.bool na,.slice ao l ca,.int .i64 E],.int .i64 last] w' fun e w''=>e = .returned (.int .u64 M)∧Below w'.heap.size w' w'')
  (hR:R = M+k * 4503599627370496) (g1:decide (last≤E) = true) :
  Calls Tryz.prog 261 #[.agg #[.bool na,.slice ao l ca,.int .i64 E]] w fun e w'=>e = .returned (.tuple #[.int .u64 R,.int .u8 0])∧Below w.heap.size w w':=by
 have h0':decide (0 < l) = true:=decide_eq_true h0
 have hz:((l:Int) == 0) = false:=by simp;omega
 have hm:=fun W ts t'=>max2_run Tryz.prog W ts t' (t - 53) (-1074)
 rw [hl] at hm
 have KT:=hide CT;have KR:=hide CR
 have hg:decide ((1024:Int) < t) = false:=decide_eq_false (by omega)
 have w1:IntKind.i64.wrap (t - 53) = t - 53:=by simp only [IntKind.wrap_i64];omega
 have w2:IntKind.i64.wrap (last - -1074) = (k:Int):=by simp only [IntKind.wrap_i64];omega
 have w3:IntKind.u64.wrap (k:Int) = (k:Int):=by simp only [IntKind.wrap_u64];omega
 have HRR:=hide (show (M:Int)+(k:Int) * 4503599627370496 = (R:Int) by omega)
 clear CT CR hl hR
 have B0:=hide ((Below.refl w.heap.size w).alloc (Nat.le_refl _) (.cells #[.bool na,.slice ao l ca,.int .i64 E] 35))
 have X0:=hide (Box3.new w (.bool na) (.slice ao l ca) (.int .i64 E))
 go_enter Tryz.func261,Tryz.ntmps261
 go_wp2_with fail
 refine (uH KT _ (uH B0)).mono ?_
 rintro e w1' ⟨rfl,hb1⟩
 have x1:=(uH X0).all hb1
 have B1:=hide ((uH B0).trans (hb1.mono (uH B0).size))
 have X1:=hide x1
 have y0:=x1.c0;have y1:=x1.c1;have y2:=x1.c2
 clear hb1 x1 KT B0 X0
 go_wp2_with fail
 refine (uH KR _ (uH B1)).mono ?_
 rintro e w2' ⟨rfl,hb2⟩
 have x2:=(uH X1).all hb2
 have B2:=hide ((uH B1).trans (hb2.mono (uH B1).size))
 clear y0 y1 y2
 have y0:=x2.c0;have y1:=x2.c1;have y2:=x2.c2
 clear hb2 x2 KR B1 X1
 go_upto_region 8 with (fail)
 rw [uH HRR]
 clear hm w1 w2 w3 hk hk2 hM HRR h0 h0' hz hg ht
 go_wp2
 exact bodyPost_ret (v:=.tuple #[.int .u64 R,.int .u8 0]) (by simp [results,Tryz.results261,go_sem]) rfl ⟨rfl,uH B2⟩
theorem roundSize_i (na:Bool) (ao:Option Addr) (ca l M k R:Nat) (E t last:Int) (w:World) (h0:0 < l) (ht:-100000≤t∧t≤1024) (hl:max (t - 53) (-1074) = last) (hk:last+1074 = k) (hk2:k≤2045) (hM:M≤9007199254740992)
  (CT:∀ w',Below w.heap.size w w'→Calls Tryz.prog 169 #[.agg #[.bool na,.slice ao l ca,.int .i64 E]] w' fun e w''=>e = .returned (.int .i64 t)∧Below w'.heap.size w' w'')
  (CR:∀ w',Below w.heap.size w w'→Calls Tryz.prog 281 #[.agg #[.bool na,.slice ao l ca,.int .i64 E],.int .i64 last] w' fun e w''=>e = .returned (.int .u64 M)∧Below w'.heap.size w' w'')
  (hR:R = M+k * 4503599627370496) (g1:decide (last≤E) = false) (g2:((R:Int) == 9218868437227405312) = true) :
  Calls Tryz.prog 261 #[.agg #[.bool na,.slice ao l ca,.int .i64 E]] w fun e w'=>e = .returned (.tuple #[.int .u64 R,.int .u8 5])∧Below w.heap.size w w':=by
 have h0':decide (0 < l) = true:=decide_eq_true h0
 have hz:((l:Int) == 0) = false:=by simp;omega
 have hm:=fun W ts t'=>max2_run Tryz.prog W ts t' (t - 53) (-1074)
 rw [hl] at hm
 have KT:=hide CT;have KR:=hide CR
 have hg:decide ((1024:Int) < t) = false:=decide_eq_false (by omega)
 have w1:IntKind.i64.wrap (t - 53) = t - 53:=by simp only [IntKind.wrap_i64];omega
 have w2:IntKind.i64.wrap (last - -1074) = (k:Int):=by simp only [IntKind.wrap_i64];omega
 have w3:IntKind.u64.wrap (k:Int) = (k:Int):=by simp only [IntKind.wrap_u64];omega
 have HRR:=hide (show (M:Int)+(k:Int) * 4503599627370496 = (R:Int) by omega)
 clear CT CR hl hR
 have B0:=hide ((Below.refl w.heap.size w).alloc (Nat.le_refl _) (.cells #[.bool na,.slice ao l ca,.int .i64 E] 35))
 have X0:=hide (Box3.new w (.bool na) (.slice ao l ca) (.int .i64 E))
 go_enter Tryz.func261,Tryz.ntmps261
 go_wp2_with fail
 refine (uH KT _ (uH B0)).mono ?_
 rintro e w1' ⟨rfl,hb1⟩
 have x1:=(uH X0).all hb1
 have B1:=hide ((uH B0).trans (hb1.mono (uH B0).size))
 have X1:=hide x1
 have y0:=x1.c0;have y1:=x1.c1;have y2:=x1.c2
 clear hb1 x1 KT B0 X0
 go_wp2_with fail
 refine (uH KR _ (uH B1)).mono ?_
 rintro e w2' ⟨rfl,hb2⟩
 have x2:=(uH X1).all hb2
 have B2:=hide ((uH B1).trans (hb2.mono (uH B1).size))
 clear y0 y1 y2
 have y0:=x2.c0;have y1:=x2.c1;have y2:=x2.c2
 clear hb2 x2 KR B1 X1
 go_upto_region 8 with (fail)
 rw [uH HRR]
 clear hm w1 w2 w3 hk hk2 hM HRR h0 h0' hz hg ht
 go_wp2
 exact bodyPost_ret (v:=.tuple #[.int .u64 R,.int .u8 5]) (by simp [results,Tryz.results261,go_sem]) rfl ⟨rfl,uH B2⟩
theorem roundSize_u (na:Bool) (ao:Option Addr) (ca l M k R:Nat) (E t last:Int) (w:World) (h0:0 < l) (ht:-100000≤t∧t≤1024) (hl:max (t - 53) (-1074) = last) (hk:last+1074 = k) (hk2:k≤2045) (hM:M≤9007199254740992)
  (CT:∀ w',Below w.heap.size w w'→Calls Tryz.prog 169 #[.agg #[.bool na,.slice ao l ca,.int .i64 E]] w' fun e w''=>e = .returned (.int .i64 t)∧Below w'.heap.size w' w'')
  (CR:∀ w',Below w.heap.size w w'→Calls Tryz.prog 281 #[.agg #[.bool na,.slice ao l ca,.int .i64 E],.int .i64 last] w' fun e w''=>e = .returned (.int .u64 M)∧Below w'.heap.size w' w'')
  (hR:R = M+k * 4503599627370496) (g1:decide (last≤E) = false) (g2:((R:Int) == 9218868437227405312) = false) (g3:decide ((R:Int) < 4503599627370496) = true) :
  Calls Tryz.prog 261 #[.agg #[.bool na,.slice ao l ca,.int .i64 E]] w fun e w'=>e = .returned (.tuple #[.int .u64 R,.int .u8 3])∧Below w.heap.size w w':=by
 have h0':decide (0 < l) = true:=decide_eq_true h0
 have hz:((l:Int) == 0) = false:=by simp;omega
 have hm:=fun W ts t'=>max2_run Tryz.prog W ts t' (t - 53) (-1074)
 rw [hl] at hm
 have KT:=hide CT;have KR:=hide CR
 have hg:decide ((1024:Int) < t) = false:=decide_eq_false (by omega)
 have w1:IntKind.i64.wrap (t - 53) = t - 53:=by simp only [IntKind.wrap_i64];omega
 have w2:IntKind.i64.wrap (last - -1074) = (k:Int):=by simp only [IntKind.wrap_i64];omega
 have w3:IntKind.u64.wrap (k:Int) = (k:Int):=by simp only [IntKind.wrap_u64];omega
 have HRR:=hide (show (M:Int)+(k:Int) * 4503599627370496 = (R:Int) by omega)
 clear CT CR hl hR
 have B0:=hide ((Below.refl w.heap.size w).alloc (Nat.le_refl _) (.cells #[.bool na,.slice ao l ca,.int .i64 E] 35))
 have X0:=hide (Box3.new w (.bool na) (.slice ao l ca) (.int .i64 E))
 go_enter Tryz.func261,Tryz.ntmps261
 go_wp2_with fail
 refine (uH KT _ (uH B0)).mono ?_
 rintro e w1' ⟨rfl,hb1⟩
 have x1:=(uH X0).all hb1
 have B1:=hide ((uH B0).trans (hb1.mono (uH B0).size))
 have X1:=hide x1
 have y0:=x1.c0;have y1:=x1.c1;have y2:=x1.c2
 clear hb1 x1 KT B0 X0
 go_wp2_with fail
 refine (uH KR _ (uH B1)).mono ?_
 rintro e w2' ⟨rfl,hb2⟩
 have x2:=(uH X1).all hb2
 have B2:=hide ((uH B1).trans (hb2.mono (uH B1).size))
 clear y0 y1 y2
 have y0:=x2.c0;have y1:=x2.c1;have y2:=x2.c2
 clear hb2 x2 KR B1 X1
 go_upto_region 8 with (fail)
 rw [uH HRR]
 clear hm w1 w2 w3 hk hk2 hM HRR h0 h0' hz hg ht
 go_wp2
 exact bodyPost_ret (v:=.tuple #[.int .u64 R,.int .u8 3]) (by simp [results,Tryz.results261,go_sem]) rfl ⟨rfl,uH B2⟩
theorem roundSize_n (na:Bool) (ao:Option Addr) (ca l M k R:Nat) (E t last:Int) (w:World) (h0:0 < l) (ht:-100000≤t∧t≤1024) (hl:max (t - 53) (-1074) = last) (hk:last+1074 = k) (hk2:k≤2045) (hM:M≤9007199254740992)
  (CT:∀ w',Below w.heap.size w w'→Calls Tryz.prog 169 #[.agg #[.bool na,.slice ao l ca,.int .i64 E]] w' fun e w''=>e = .returned (.int .i64 t)∧Below w'.heap.size w' w'')
  (CR:∀ w',Below w.heap.size w w'→Calls Tryz.prog 281 #[.agg #[.bool na,.slice ao l ca,.int .i64 E],.int .i64 last] w' fun e w''=>e = .returned (.int .u64 M)∧Below w'.heap.size w' w'')
  (hR:R = M+k * 4503599627370496) (g1:decide (last≤E) = false) (g2:((R:Int) == 9218868437227405312) = false) (g3:decide ((R:Int) < 4503599627370496) = false) :
  Calls Tryz.prog 261 #[.agg #[.bool na,.slice ao l ca,.int .i64 E]] w fun e w'=>e = .returned (.tuple #[.int .u64 R,.int .u8 1])∧Below w.heap.size w w':=by
 have h0':decide (0 < l) = true:=decide_eq_true h0
 have hz:((l:Int) == 0) = false:=by simp;omega
 have hm:=fun W ts t'=>max2_run Tryz.prog W ts t' (t - 53) (-1074)
 rw [hl] at hm
 have KT:=hide CT;have KR:=hide CR
 have hg:decide ((1024:Int) < t) = false:=decide_eq_false (by omega)
 have w1:IntKind.i64.wrap (t - 53) = t - 53:=by simp only [IntKind.wrap_i64];omega
 have w2:IntKind.i64.wrap (last - -1074) = (k:Int):=by simp only [IntKind.wrap_i64];omega
 have w3:IntKind.u64.wrap (k:Int) = (k:Int):=by simp only [IntKind.wrap_u64];omega
 have HRR:=hide (show (M:Int)+(k:Int) * 4503599627370496 = (R:Int) by omega)
 clear CT CR hl hR
 have B0:=hide ((Below.refl w.heap.size w).alloc (Nat.le_refl _) (.cells #[.bool na,.slice ao l ca,.int .i64 E] 35))
 have X0:=hide (Box3.new w (.bool na) (.slice ao l ca) (.int .i64 E))
 go_enter Tryz.func261,Tryz.ntmps261
 go_wp2_with fail
 refine (uH KT _ (uH B0)).mono ?_
 rintro e w1' ⟨rfl,hb1⟩
 have x1:=(uH X0).all hb1
 have B1:=hide ((uH B0).trans (hb1.mono (uH B0).size))
 have X1:=hide x1
 have y0:=x1.c0;have y1:=x1.c1;have y2:=x1.c2
 clear hb1 x1 KT B0 X0
 go_wp2_with fail
 refine (uH KR _ (uH B1)).mono ?_
 rintro e w2' ⟨rfl,hb2⟩
 have x2:=(uH X1).all hb2
 have B2:=hide ((uH B1).trans (hb2.mono (uH B1).size))
 clear y0 y1 y2
 have y0:=x2.c0;have y1:=x2.c1;have y2:=x2.c2
 clear hb2 x2 KR B1 X1
 go_upto_region 8 with (fail)
 rw [uH HRR]
 clear hm w1 w2 w3 hk hk2 hM HRR h0 h0' hz hg ht
 go_wp2
 exact bodyPost_ret (v:=.tuple #[.int .u64 R,.int .u8 1]) (by simp [results,Tryz.results261,go_sem]) rfl ⟨rfl,uH B2⟩
end Go.Proofs.YtcbcmlaogehimaaGreatDoor
namespace Go.Proofs.YtcbcmlaogehimaaGreatDoor
open Go.RowKit
theorem roundSize_z (na:Bool) (ao:Option Addr) (ca:Nat) (E t:Int) (w:World)
  (CT:∀ w',Below w.heap.size w w'→Calls Tryz.prog 169 #[.agg #[.bool na,.slice ao 0 ca,.int .i64 E]] w' fun e w''=>e = .returned (.int .i64 t)∧Below w'.heap.size w' w'') :
  Calls Tryz.prog 261 #[.agg #[.bool na,.slice ao 0 ca,.int .i64 E]] w fun e w'=>e = .returned (.tuple #[.int .u64 0,.int .u8 0])∧Below w.heap.size w w':=by
 have KT:=hide CT
 clear CT
 have B0:=hide ((Below.refl w.heap.size w).alloc (Nat.le_refl _) (.cells #[.bool na,.slice ao 0 ca,.int .i64 E] 35))
 have X0:=hide (Box3.new w (.bool na) (.slice ao 0 ca) (.int .i64 E))
 go_enter Tryz.func261,Tryz.ntmps261
 go_wp2_with fail
 refine (uH KT _ (uH B0)).mono ?_
 rintro e w1' ⟨rfl,hb1⟩
 have x1:=(uH X0).all hb1
 have B1:=hide ((uH B0).trans (hb1.mono (uH B0).size))
 have y0:=x1.c0;have y1:=x1.c1;have y2:=x1.c2
 clear hb1 x1 KT B0 X0
 go_wp2
 exact bodyPost_ret (v:=.tuple #[.int .u64 0,.int .u8 0]) (by simp [results,Tryz.results261,go_sem]) rfl ⟨rfl,uH B1⟩
theorem roundSize_b (na:Bool) (ao:Option Addr) (ca l:Nat) (E t:Int) (w:World) (h0:0 < l) (ht:1024 < t)
  (CT:∀ w',Below w.heap.size w w'→Calls Tryz.prog 169 #[.agg #[.bool na,.slice ao l ca,.int .i64 E]] w' fun e w''=>e = .returned (.int .i64 t)∧Below w'.heap.size w' w'') :
  Calls Tryz.prog 261 #[.agg #[.bool na,.slice ao l ca,.int .i64 E]] w fun e w'=>e = .returned (.tuple #[.int .u64 9218868437227405312,.int .u8 5])∧Below w.heap.size w w':=by
 have h0':decide (0 < l) = true:=decide_eq_true h0
 have hz:((l:Int) == 0) = false:=by simp;omega
 have hg:decide ((1024:Int) < t) = true:=decide_eq_true ht
 have KT:=hide CT
 clear CT ht
 have B0:=hide ((Below.refl w.heap.size w).alloc (Nat.le_refl _) (.cells #[.bool na,.slice ao l ca,.int .i64 E] 35))
 have X0:=hide (Box3.new w (.bool na) (.slice ao l ca) (.int .i64 E))
 go_enter Tryz.func261,Tryz.ntmps261
 go_wp2_with fail
 refine (uH KT _ (uH B0)).mono ?_
 rintro e w1' ⟨rfl,hb1⟩
 have x1:=(uH X0).all hb1
 have B1:=hide ((uH B0).trans (hb1.mono (uH B0).size))
 have y0:=x1.c0;have y1:=x1.c1;have y2:=x1.c2
 clear hb1 x1 KT B0 X0
 go_wp2
 exact bodyPost_ret (v:=.tuple #[.int .u64 9218868437227405312,.int .u8 5]) (by simp [results,Tryz.results261,go_sem]) rfl ⟨rfl,uH B1⟩
theorem val_ne {n:Bool} {L:List Nat} (hr:rightB n L = true) (h0:L ≠ []):val L ≠ 0:=fun h=>h0 ((val_zero_of_canon L (right_canon hr).2.1).1 h)
theorem roundSize_any (na:Bool) (ao:Option Addr) (ca:Nat) (A:List Nat) (E:Int) (w:World) (hA:LimbsAt w ao ca A) (hr:drB na A E = true) :
  Calls Tryz.prog 261 #[.agg #[.bool na,.slice ao A.length ca,.int .i64 E]] w fun e w'=>e = .returned (.tuple #[.int .u64 (rnd (val A) E:Nat),.int .u8 (rflag (val A) E)])∧Below w.heap.size w w':=by
 obtain ⟨d1,d2,d3,d4,d5⟩:=drB_bounds hr
 have CT:∀ w',Below w.heap.size w w'→Calls Tryz.prog 169 #[.agg #[.bool na,.slice ao A.length ca,.int .i64 E]] w' fun e w''=>e = .returned (.int .i64 (IntKind.i64.wrap (lenL A+E)))∧Below w'.heap.size w' w'':=fun w' hb=>dtop_any na ao ca A E w' (hA.below hb) (by omega)
 rw [lenL_bl hA.2.1 d1] at CT
 by_cases h0:A = []
 ·subst h0
  have e1:rnd (val []) E = 0:=by simp [rnd,val]
  have e2:rflag (val []) E = 0:=by simp [rflag,val]
  rw [e1,e2]
  exact roundSize_z na ao ca E _ w CT
 ·have hv:=val_ne d1 h0
  have hl:0 < A.length:=List.length_pos_iff.2 h0
  have hbl:bl (val A)≤16384:=by
   have h1:=bl_spec (val A) hv
   have h2:=val_lt_pow A hA.2.1 512 d2
   have:=pow_lt_of (Nat.lt_of_le_of_lt h1.2.1 h2)
   omega
  have hw:IntKind.i64.wrap ((bl (val A):Int)+E) = (bl (val A):Int)+E:=by simp only [IntKind.wrap_i64];omega
  rw [hw] at CT
  by_cases ht:1024 < (bl (val A):Int)+E
  ·have e1:rnd (val A) E = 9218868437227405312:=by unfold rnd;rw [if_neg hv,if_pos ht]
   have e2:rflag (val A) E = 5:=by unfold rflag;rw [if_neg hv,if_pos ht]
   rw [e1,e2]
   exact roundSize_b na ao ca A.length E _ w hl ht CT
  ·have hR:=rnd_fin (val A) E hv (by omega)
   obtain ⟨l1,l2,l3⟩:=lastE_ge (val A) E
   have hM:=(rndM_bounds (val A) E hv).1
   have hN:=pN_lt (val A) E hv
   have hbl1:=(bl_spec (val A) hv).1
   have CR:∀ w',Below w.heap.size w w'→Calls Tryz.prog 281 #[.agg #[.bool na,.slice ao A.length ca,.int .i64 E],.int .i64 (lastE (val A) E)] w' fun e w''=>e = .returned (.int .u64 (rndM (val A) E:Nat))∧Below w'.heap.size w' w'':=fun w' hb =>
    roundAt_any na ao ca A E _ w' (hA.below hb) hr h0 (by omega) (by omega) hN
   have hmax:max ((bl (val A):Int)+E - 53) (-1074) = lastE (val A) E:=rfl
   have hk:lastE (val A) E+1074 = ((lastE (val A) E+1074).toNat:Int):=by omega
   have e2:rflag (val A) E = if lastE (val A) E≤E then 0 else if rnd (val A) E = 9218868437227405312 then 5 else if rnd (val A) E < 4503599627370496 then 3 else 1:=by unfold rflag;rw [if_neg hv,if_neg ht]
   by_cases g1:lastE (val A) E≤E
   ·rw [e2,if_pos g1]
    exact roundSize_e na ao ca A.length _ _ _ E _ _ w hl (by omega) hmax hk (by omega) hM CT CR hR (decide_eq_true g1)
   ·rw [if_neg g1] at e2
    by_cases g2:rnd (val A) E = 9218868437227405312
    ·rw [e2,if_pos g2]
     exact roundSize_i na ao ca A.length _ _ _ E _ _ w hl (by omega) hmax hk (by omega) hM CT CR hR (decide_eq_false g1) (by simp;omega)
    ·rw [if_neg g2] at e2
     have g2':((rnd (val A) E:Int) == 9218868437227405312) = false:=by simp;omega
     by_cases g3:rnd (val A) E < 4503599627370496
     ·rw [e2,if_pos g3]
      exact roundSize_u na ao ca A.length _ _ _ E _ _ w hl (by omega) hmax hk (by omega) hM CT CR hR (decide_eq_false g1) g2' (decide_eq_true (by omega))
     ·rw [e2,if_neg g3]
      exact roundSize_n na ao ca A.length _ _ _ E _ _ w hl (by omega) hmax hk (by omega) hM CT CR hR (decide_eq_false g1) g2' (decide_eq_false (by omega))
def wrd (neg:Bool) (r:Nat):Nat:=if neg = true then r+9223372036854775808 else r
theorem wrd_true (r:Nat):wrd true r = r+9223372036854775808:=if_pos rfl
theorem wrd_false (r:Nat):wrd false r = r:=if_neg Bool.false_ne_true
theorem fN_wrd (r:Nat) (h:r < 9223372036854775808):fN r = wrd true r:=by rw [wrd_true];unfold fN;exact if_neg (by omega)
theorem round_right (na:Bool) (ao:Option Addr) (ca:Nat) (A:List Nat) (E:Int) (w:World) (hA:LimbsAt w ao ca A) (hr:drB na A E = true) (hT:Tab w) :
  Calls Tryz.prog 229 #[.agg #[.bool na,.slice ao A.length ca,.int .i64 E]] w fun e w'=>e = .returned (.tuple #[.int .u64 (wrd na (rnd (val A) E):Nat),.int .u8 (rflag (val A) E),.int .i64 0])∧Below w.heap.size w w':=by
 have la:=(drB_bounds hr).2.1
 have CC:=hide (fun w' h t=>dcheck_any na ao ca A E w' h (by omega) t)
 have he:drE na A E = 0:=by unfold drE;rw [hr];rfl
 rw [he] at CC
 have CR:=hide (fun w' h=>roundSize_any na ao ca A E w' h hr)
 have hle:=rnd_le (val A) E
 have hn:fN (rnd (val A) E) = wrd true (rnd (val A) E):=fN_wrd _ (by omega)
 have CM:=hide (fun w'=>sminus_any (rnd (val A) E) w' (by omega))
 rw [hn] at CM
 clear he hr la
 have B0:=hide ((Below.refl w.heap.size w).alloc (Nat.le_refl _) (.cells #[.bool na,.slice ao A.length ca,.int .i64 E] 35))
 have X0:=hide (Box3.new w (.bool na) (.slice ao A.length ca) (.int .i64 E))
 have HA:=hide (hA.below (uH B0));have HT:=hide (hT.all (uH B0))
 have hw0:wrd false (rnd (val A) E) = rnd (val A) E:=wrd_false _
 clear hA hT hle hn
 generalize rflag (val A) E = fl at *
 generalize rnd (val A) E = R at *
 cases na
 ·rw [hw0]
  clear CM hw0
  go_enter Tryz.func229,Tryz.ntmps229
  go_wp2_with fail
  refine (uH CC _ (uH HA) (uH HT)).mono ?_
  rintro e w1 ⟨rfl,hb1⟩
  have B1:=hide ((uH B0).trans (hb1.mono (uH B0).size))
  have x1:=(uH X0).all hb1
  have HA1:=hide ((uH HA).below hb1)
  have y0:=x1.c0;have y1:=x1.c1;have y2:=x1.c2
  have X1:=hide x1
  clear hb1 B0 CC HA HT X0 x1
  go_wp2_with fail
  refine (uH CR _ (uH HA1)).mono ?_
  rintro e w2 ⟨rfl,hb2⟩
  have B2:=hide ((uH B1).trans (hb2.mono (uH B1).size))
  have x2:=(uH X1).all hb2
  clear y0 y1 y2
  have y0:=x2.c0;have y1:=x2.c1;have y2:=x2.c2
  clear hb2 x2 CR B1 X1
  go_wp2
  exact bodyPost_ret (v:=.tuple #[.int .u64 R,.int .u8 fl,.int .i64 0]) (by simp [results,Tryz.results229,go_sem]) rfl ⟨rfl,uH B2⟩
 ·clear hw0
  generalize wrd true R = R' at *
  go_enter Tryz.func229,Tryz.ntmps229
  go_wp2_with fail
  refine (uH CC _ (uH HA) (uH HT)).mono ?_
  rintro e w1 ⟨rfl,hb1⟩
  have B1:=hide ((uH B0).trans (hb1.mono (uH B0).size))
  have x1:=(uH X0).all hb1
  have HA1:=hide ((uH HA).below hb1)
  have y0:=x1.c0;have y1:=x1.c1;have y2:=x1.c2
  have X1:=hide x1
  clear hb1 B0 CC HA HT X0 x1
  go_wp2_with fail
  refine (uH CR _ (uH HA1)).mono ?_
  rintro e w2 ⟨rfl,hb2⟩
  have B2:=hide ((uH B1).trans (hb2.mono (uH B1).size))
  have x2:=(uH X1).all hb2
  clear y0 y1 y2
  have y0:=x2.c0;have y1:=x2.c1;have y2:=x2.c2
  clear hb2 x2 CR B1 X1
  go_wp2_with (go_at_call 162;refine (uH CM _).mono ?_;rintro e w3 ⟨rfl,rfl⟩)
  exact bodyPost_ret (v:=.tuple #[.int .u64 R',.int .u8 fl,.int .i64 0]) (by simp [results,Tryz.results229,go_sem]) rfl ⟨rfl,uH B2⟩
end Go.Proofs.YtcbcmlaogehimaaGreatDoor
namespace Go.Proofs.YtcbcmlaogehimaaGreatDoor
open Go.RowKit
theorem round_dy {w:World} {v:Value} {m e:Int} (h:IsDy w v m e) (hm:m.natAbs < TOP) (hr:dRt m e = true) (hT:Tab w) :
  Calls Tryz.prog 229 #[v] w fun r w'=>r = .returned (.tuple #[.int .u64 (wrd (decide (m < 0)) (rnd m.natAbs e):Nat),.int .u8 (rflag m.natAbs e),.int .i64 0])∧Below w.heap.size w w':=by
 obtain ⟨n,a,c,L,rfl,h1,h2,h3,h4,h5⟩:=h.right hm
 have hn:n = decide (m < 0):=by
  obtain ⟨n',a',c',L',e1,_,_,e4,_⟩:=h.parts
  simp only [Value.agg.injEq,Array.mk.injEq,List.cons.injEq,Value.bool.injEq] at e1
  rw [e1.1];exact e4
 have hv:val L = m.natAbs:=by rw [← h3,natAbs_sval]
 have:=round_right n a c L e w h1 (h5.trans hr) hT
 rw [hv,hn] at this
 rw [hn]
 exact this
end Go.Proofs.YtcbcmlaogehimaaGreatDoor
namespace Go.Proofs.YtcbcmlaogehimaaGreatDoor
open Go.RowKit
theorem oM_abs (z:Int) (h:z ≠ 0):z.natAbs = (oM z).natAbs * 2 ^ tz z.natAbs:=by
 have h1:=(oddOf z h).1
 have h2:=congrArg Int.natAbs h1
 rw [Int.natAbs_mul,Int.natAbs_pow] at h2
 exact h2
theorem oM_sign (z:Int):decide (oM z < 0) = decide (z < 0):=by
 have h:=sgnI_oM z
 unfold sgnI at h
 by_cases h1:oM z < 0
 ·rw [if_pos h1] at h
  by_cases h2:z < 0
  ·rw [decide_eq_true h1,decide_eq_true h2]
  ·rw [if_neg h2] at h
   split at h <;> omega
 ·rw [if_neg h1] at h
  by_cases h2:z < 0
  ·rw [if_pos h2] at h
   split at h <;> omega
  ·rw [decide_eq_false h1,decide_eq_false h2]
theorem rnd_odd (z e:Int):rnd (oM z).natAbs (oE z e) = rnd z.natAbs e∧(z ≠ 0→lastE (oM z).natAbs (oE z e) = lastE z.natAbs e∧(bl (oM z).natAbs:Int)+oE z e = (bl z.natAbs:Int)+e):=by
 by_cases h:z = 0
 ·subst h
  refine ⟨by rw [oM_zero];simp [rnd],fun h=>absurd rfl h⟩
 ·have ha:=oM_abs z h
  have hne:(oM z).natAbs ≠ 0:=by have:=(oM_ne z h).1;omega
  rw [oE_ne z e h]
  generalize tz z.natAbs = k at *
  rw [ha,rnd_scale]
  refine ⟨rfl,fun _=>?_⟩
  have hb:=bl_scale (oM z).natAbs k hne
  refine ⟨?_,by rw [hb];omega⟩
  unfold lastE
  rw [hb]
  congr 1
  omega
end Go.Proofs.YtcbcmlaogehimaaGreatDoor
