/- Part 17 of the texts. -/
import Derived.Test.YtcbcmlaogehimaaGreatDoorPartc16
import Derived.Test.YtcbcmlaogehimaaGreatDoorPartc08
import Derived.Test.YtcbcmlaogehimaaGreatDoorPartc15
import Derived.Laws.BitsLemmas
import Derived.Deep.RegionHeld3
import Derived.Test.YtcbcmlaogehimaaGreatDoorPartc12
import Derived.Test.YtcbcmlaogehimaaGreatDoorPartc13
import Derived.Deep.Cut
import Derived.BigQuiet
import Derived.Test.YtcbcmlaogehimaaGreatDoorPartc14
set_option maxHeartbeats 8000000
set_option maxRecDepth 20000
namespace Go.Proofs.YtcbcmlaogehimaaGreatDoor
open Go.RowKit
theorem reckon_ways (n:Nat) (P R S:Nat→Nat) (w:World) (h0:R 0 = 0∧S 0 = 0)
  (C:∀ i,i < 32→∀ w',Calls Tryz.prog 299 #[.agg #[.int .u64 (R i:Nat),.int .u64 (S i:Nat)],.int .u64 (P i:Nat)] w' fun e w''=>e = .returned (.agg #[.int .u64 (R (i+1):Nat),.int .u64 (S (i+1):Nat)])∧Below w'.heap.size w' w'')
  (hP:∀ i,i < 32→bits .and .u64 ((n:Int) / 2 ^ (2 * (31 - i))) 3 = (P i:Int)) :
  Calls Tryz.prog 298 #[.int .u64 n] w fun e w'=>e = .returned (.agg #[.int .u64 (R 32:Nat),.int .u64 (S 32:Nat)])∧Below w.heap.size w w':=by
 have H0:=hide h0;have HC:=hide C;have HP:=hide hP
 clear h0 C hP
 go_enter Tryz.func298,Tryz.ntmps298
 go_wp2
 go_loopw [6] (fun i wr=>∃ k:Nat,k≤32∧i = .int .i64 k∧Hid (BoxP wr w.heap.size (.int .u64 0) (.int .u64 0))∧Hid (BoxP wr (w.heap.size+1) (.int .u64 (R k:Nat)) (.int .u64 (S k:Nat)))∧Hid (Below w.heap.size w wr)) (fun i _=>32 - (intOf i).toNat)
 case atStart =>
  have h:=uH H0
  refine ⟨0,by omega,rfl,hide ?_,hide ?_,hide (((Below.refl _ _).alloc (Nat.le_refl _) _).alloc (by simp) _)⟩
  ·exact (BoxP.new w (.int .u64 0) (.int .u64 0)).all ((Below.refl _ _).alloc (Nat.le_refl _) _)
  ·rw [h.1,h.2]
   have:=BoxP.new (w.alloc (.cells #[.int .u64 0,.int .u64 0] 252)) (.int .u64 0) (.int .u64 0)
   simpa using this
 case round =>
  obtain ⟨k,hk,rfl,hx,hy,hb⟩:=hrel
  by_cases hlt:k < 32
  ·have K1:=hide (uH HC k hlt)
   have hp:=uH HP k hlt
   have y0:=(uH hy).c0;have y1:=(uH hy).c1;have f0:=(uH hy).free 0;have f1:=(uH hy).free 1
   have b0:(0:Int)≤(k:Int):=by omega
   have b1:(k:Int) < 32:=by omega
   obtain ⟨d,hd⟩:∃ d:Nat,d = 2 * (31 - k):=⟨_,rfl⟩
   have e1:IntKind.i64.wrap (31 - (k:Int)) = ((31 - k:Nat):Int):=by rw [wrap_small _ (by omega)];omega
   have e2:IntKind.i64.wrap (2 * ((31 - k:Nat):Int)) = (d:Int):=by rw [wrap_small _ (by omega)];omega
   have d0:d≤63:=by omega
   rw [← hd] at hp
   have HD:=hide hd
   clear HC HP H0 hd
   generalize 31 - k = c at *
   generalize R k = r at *
   generalize S k = s at *
   generalize P k = p at *
   obtain ⟨r1,hr1⟩:∃ x,x = R (k+1):=⟨_,rfl⟩
   obtain ⟨s1,hs1⟩:∃ x,x = S (k+1):=⟨_,rfl⟩
   rw [← hr1,← hs1] at K1
   have NR:=hide hr1.symm;have NS:=hide hs1.symm
   clear hr1 hs1
   go_wp2_with fail
   have xd:BoxP wr.drew w.heap.size (.int .u64 0) (.int .u64 0):=uH hx
   have yd:BoxP wr.drew (w.heap.size+1) (.int .u64 (r:Nat)) (.int .u64 (s:Nat)):=uH hy
   have hbd:Below w.heap.size w wr.drew:=(uH hb).drew
   have XD:=hide xd;have YD:=hide yd;have BD:=hide hbd
   clear xd yd hbd
   go_region_with (go_at_call 299;refine (uH K1 _).mono ?_;rintro e w1 ⟨rfl,hb1⟩;have x1:=(uH YD).all hb1;have B1:=hide ((uH BD).trans (hb1.mono (uH BD).size));have X1:=hide ((uH XD).all hb1);clear hb1 y0 y1 f0 f1;have y0:=x1.c0;have y1:=x1.c1;have f0:=x1.free 0;have f1:=x1.free 1;have YB:=hide x1;clear x1)
   go_wp2
   go_roundw
   case rel =>
    refine ⟨k+1,by omega,by go_num,hide ?_,hide ?_,hide ?_⟩
    ·exact (uH X1).oth (by omega) _ _
    ·rw [uH NR,uH NS]
     exact (uH YB).put _ _
    ·exact below_putP (uH B1) (by omega) _ _
   case measure=>simp [intOf];omega
  ·have hk2:k = 32:=by omega
   subst hk2
   have y0:=(uH hy).c0;have y1:=(uH hy).c1
   have x0:=(uH hx).c0;have x1:=(uH hx).c1;have f0:=(uH hx).free 0;have f1:=(uH hx).free 1
   clear HC HP H0
   obtain ⟨r,hr⟩:∃ x,x = R 32:=⟨_,rfl⟩
   obtain ⟨s,hs⟩:∃ x,x = S 32:=⟨_,rfl⟩
   rw [← hr] at y0
   rw [← hs] at y1
   have HR:=hide hr;have HS:=hide hs
   clear hr hs
   go_wp2
   refine bodyPost_ret (v:=.agg #[.int .u64 (r:Nat),.int .u64 (s:Nat)]) ?_ rfl ⟨by rw [uH HR,uH HS],below_putP (uH hb) (Nat.le_refl _) _ _⟩
   have z:=(uH hx).put (.int .u64 (r:Nat)) (.int .u64 (s:Nat))
   have z0:=z.c0;have z1:=z.c1
   simp [results,Tryz.results298,go_sem,z0,z1]
theorem rootBehind_ways (n X:Nat) (R S:Nat→Nat) (w:World)
  (C1:∀ w',Calls Tryz.prog 298 #[.int .u64 n] w' fun e w''=>e = .returned (.agg #[.int .u64 (R 0:Nat),.int .u64 (S 0:Nat)])∧Below w'.heap.size w' w'')
  (C2:∀ i,i < 22→∀ w',Calls Tryz.prog 299 #[.agg #[.int .u64 (R i:Nat),.int .u64 (S i:Nat)],.int .u64 0] w' fun e w''=>e = .returned (.agg #[.int .u64 (R (i+1):Nat),.int .u64 (S (i+1):Nat)])∧Below w'.heap.size w' w'')
  (hR:R 22 < 18014398509481984) (hX:X = 2 * R 22+(if S 22 = 0 then 0 else 1)) :
  Calls Tryz.prog 293 #[.int .u64 n] w fun e w'=>e = .returned (.int .i64 (X:Nat))∧Below w.heap.size w w':=by
 have K1:=hide C1;have K2:=hide C2;have HX:=hide hX;have HR:=hide hR
 clear C1 C2 hX hR
 go_enter Tryz.func293,Tryz.ntmps293
 go_wp2_with fail
 refine (uH K1 _).mono ?_
 rintro e w1 ⟨rfl,hb1⟩
 have x:=hide (BoxP.new w1 (.int .u64 (R 0:Nat)) (.int .u64 (S 0:Nat)))
 have B1:=hide (hb1.trans (((Below.refl _ _).alloc (Nat.le_refl _) (.cells #[.int .u64 (R 0:Nat),.int .u64 (S 0:Nat)] 252)).mono hb1.size))
 have hg:=hb1.size
 clear K1 hb1
 go_wp2
 go_loopw [7] (fun i wr=>∃ k:Nat,k≤22∧i = .int .i64 k∧Hid (BoxP wr w1.heap.size (.int .u64 (R k:Nat)) (.int .u64 (S k:Nat)))∧Hid (Below w.heap.size w wr)) (fun i _=>22 - (intOf i).toNat)
 case atStart=>exact ⟨0,by omega,rfl,x,B1⟩
 case round =>
  obtain ⟨k,hk,rfl,hy,hb⟩:=hrel
  clear x B1
  by_cases hlt:k < 22
  ·have C:=hide (uH K2 k hlt)
   have y0:=(uH hy).c0;have y1:=(uH hy).c1
   have b0:(0:Int)≤(k:Int):=by omega
   have b1:(k:Int) < 22:=by omega
   obtain ⟨r1,hr1⟩:∃ x,x = R (k+1):=⟨_,rfl⟩
   obtain ⟨s1,hs1⟩:∃ x,x = S (k+1):=⟨_,rfl⟩
   rw [← hr1,← hs1] at C
   have NR:=hide hr1.symm;have NS:=hide hs1.symm
   clear K2 HX HR hr1 hs1
   generalize R k = r at *
   generalize S k = s at *
   go_wp2_with fail
   refine (uH C _).mono ?_
   rintro e w2 ⟨rfl,hb2⟩
   have x1:=(uH hy).all hb2
   have B2:=hide ((uH hb).trans (hb2.mono (uH hb).size))
   clear hb2 y0 y1 hy hb C
   have y0:=x1.c0;have y1:=x1.c1;have f0:=x1.free 0;have f1:=x1.free 1
   have YB:=hide x1
   clear x1
   go_wp2
   go_roundw
   case rel =>
    refine ⟨k+1,by omega,by go_num,hide ?_,hide (below_putP (uH B2) (by omega) _ _)⟩
    rw [uH NR,uH NS]
    exact (uH YB).put _ _
   case measure=>simp [intOf];omega
  ·have hk2:k = 22:=by omega
   subst hk2
   have y0:=(uH hy).c0;have y1:=(uH hy).c1
   have r0:=uH HR
   clear K2 HR
   generalize R 22 = r at *
   generalize S 22 = s at *
   by_cases c:0 < s
   ·have M:=hide (show X = 2 * r+1 by rw [uH HX,if_neg (by omega)])
    have c':(s:Int) > 0:=by omega
    clear HX
    go_wp2
    go_ret
    exact ⟨ret_int (by rw [uH M];omega),uH hb⟩
   ·have M:=hide (show X = 2 * r by rw [uH HX,if_pos (by omega)];rfl)
    have c':¬ (s:Int) > 0:=by omega
    clear HX
    go_wp2
    go_ret
    exact ⟨ret_int (by rw [uH M];omega),uH hb⟩
end Go.Proofs.YtcbcmlaogehimaaGreatDoor
namespace Go.Proofs.YtcbcmlaogehimaaGreatDoor
open Go.RowKit
theorem pnext_any (N p:Nat) (w:World) (hp:p < 4) (hN:isq N < 18014398509481984) :
  Calls Tryz.prog 299 #[.agg #[.int .u64 (isq N:Nat),.int .u64 (rest7 N:Nat)],.int .u64 (p:Nat)] w fun e w'=>e = .returned (.agg #[.int .u64 (isq (4 * N+p):Nat),.int .u64 (rest7 (4 * N+p):Nat)])∧Below w.heap.size w w':=by
 obtain ⟨h1,h2⟩:=next7 N p hp
 have hs:=rest7_le N
 have o1:=or_pair (rest7 N) p (by omega) hp
 have o2:=or_one (2 * isq N) (by omega)
 have o3:=or_one (isq N) (by omega)
 rw [show ((2 * isq N:Nat):Int) = (isq N:Int) * 2 by omega] at o2
 by_cases hc:4 * rest7 N+p < 4 * isq N+1
 ·rw [(h1 hc).1,(h1 hc).2]
  exact pnext_n (isq N) (rest7 N) p (4 * rest7 N+p) (2 * (2 * isq N)+1) (2 * isq N) w hN hs (by omega) o1 o2 (by omega)
 ·rw [(h2 hc).1,(h2 hc).2]
  exact pnext_m (isq N) (rest7 N) p (4 * rest7 N+p) (2 * (2 * isq N)+1) (2 * isq N+1) (4 * rest7 N+p - (4 * isq N+1)) w hN hs (by omega) (by omega) o1 o2 o3 (by omega)
theorem and_three (x:Nat) (h:x < 18446744073709551616):bits .and .u64 (x:Int) 3 = ((x % 4:Nat):Int):=by
 have h1:=bits_and_u64_nat x 3 h (by decide)
 refine h1.trans ?_
 have:x &&& 3 = x % 4:=by
  have:=Nat.and_two_pow_sub_one_eq_mod x 2
  simpa using this
 rw [this]
theorem reckon_any (n:Nat) (w:World) (hn:n < 18446744073709551616) :
  Calls Tryz.prog 298 #[.int .u64 n] w fun e w'=>e = .returned (.agg #[.int .u64 (isq n:Nat),.int .u64 (rest7 n:Nat)])∧Below w.heap.size w w':=by
 have h:=reckon_ways n (fun i=>n / 2 ^ (2 * (31 - i)) % 4) (fun i=>isq (top7 n i)) (fun i=>rest7 (top7 n i)) w ?_ ?_ ?_
 ·rw [top7_end] at h
  exact h
 ·rw [top7_zero n hn]
  exact ⟨rfl,rfl⟩
 ·intro i hi w'
  have:=pnext_any (top7 n i) (n / 2 ^ (2 * (31 - i)) % 4) w' (by omega) (by have:=isq_top7 n i hn;omega)
  rw [← top7_succ n i hi] at this
  exact this
 ·intro i hi
  have e:(n:Int) / 2 ^ (2 * (31 - i)) = ((n / 2 ^ (2 * (31 - i)):Nat):Int):=by simp
  rw [e]
  exact and_three _ (Nat.lt_of_le_of_lt (Nat.div_le_self _ _) hn)
theorem rootBehind_any (n:Nat) (w:World) (hn:n < 18446744073709551616) :
  Calls Tryz.prog 293 #[.int .u64 n] w fun e w'=>e = .returned (.int .i64 (rS (n * 4 ^ 22):Nat))∧Below w.heap.size w w':=by
 refine rootBehind_ways n _ (fun i=>isq (n * 4 ^ i)) (fun i=>rest7 (n * 4 ^ i)) w ?_ ?_ (isq_low7 n 22 hn (by decide)) ?_
 ·intro w'
  have:=reckon_any n w' hn
  show Calls Tryz.prog 298 #[.int .u64 n] w' fun e w''=>e = .returned (.agg #[.int .u64 (isq (n * 4 ^ 0):Nat),.int .u64 (rest7 (n * 4 ^ 0):Nat)])∧Below w'.heap.size w' w''
  rw [Nat.pow_zero,Nat.mul_one]
  exact this
 ·intro i hi w'
  have:=pnext_any (n * 4 ^ i) 0 w' (by decide) (isq_low7 n i hn (by omega))
  rw [← low7_succ] at this
  exact this
 ·unfold rS
  have:=rest7_zero (n * 4 ^ 22)
  by_cases h:isq (n * 4 ^ 22) * isq (n * 4 ^ 22) = n * 4 ^ 22
  ·rw [if_pos h,if_pos (this.2 h)]
  ·rw [if_neg h,if_neg (fun e=>h (this.1 e))]
end Go.Proofs.YtcbcmlaogehimaaGreatDoor
namespace Go.Proofs.YtcbcmlaogehimaaGreatDoor
open Go.RowKit
theorem i64_and1 (n:Int):bits .and .i64 n 1 = n % 2:=by
 have h1:(BitVec.ofInt 64 1).toNat = 2 ^ 1 - 1:=by decide
 have key:(BitVec.ofInt 64 n &&& BitVec.ofInt 64 1).toNat = (n % ((2 ^ 64:Nat):Int)).toNat % 2 ^ 1:=by
  rw [BitVec.toNat_and,BitVec.toNat_ofInt,h1,Nat.and_two_pow_sub_one_eq_mod]
 show IntKind.i64.wrap ((BitVec.ofInt 64 n &&& BitVec.ofInt 64 1).toNat:Nat) = n % 2
 rw [key,IntKind.wrap_i64]
 omega
theorem rsize_ways (b m ln od d o:Nat) (z1 X1 tp:Int) (w:World) (hln:ln≤53) (hod:od≤1) (hm:m < 9007199254740992) (ht:-3000≤tp∧tp≤3000)
  (h1:bits .and .i64 tp 1 = (od:Int)) (hd:d+ln+od = 64) (ho:IntKind.u64.wrap ((m:Int) * 2 ^ d) = (o:Int))
  (C1:∀ w',Below w.heap.size w w'→Calls Tryz.prog 168 #[.int .u64 b] w' fun r w''=>DyR w'' r 0 z1 X1∧Below w'.heap.size w' w'')
  (C2:∀ w' n a l c,IsDy w' (.agg #[.bool n,.slice a l c,.int .i64 X1]) z1 X1→Calls Tryz.prog 290 #[.agg #[.bool n,.slice a l c]] w' fun r w''=>r = .returned (.tuple #[.int .i64 (m:Nat),.int .i64 0])∧Below w'.heap.size w' w'')
  (C3:∀ w' n a l c,IsDy w' (.agg #[.bool n,.slice a l c,.int .i64 X1]) z1 X1→Calls Tryz.prog 169 #[.agg #[.bool n,.slice a l c,.int .i64 X1]] w' fun r w''=>r = .returned (.int .i64 tp)∧Below w'.heap.size w' w'')
  (C4:∀ w' n a l c,IsDy w' (.agg #[.bool n,.slice a l c,.int .i64 X1]) z1 X1→Calls Tryz.prog 208 #[.agg #[.bool n,.slice a l c]] w' fun r w''=>r = .returned (.int .i64 (ln:Nat))∧Below w'.heap.size w' w'') :
  Calls Tryz.prog 292 #[.int .u64 b] w fun r w'=>r = .returned (.tuple #[.int .u64 (o:Nat),.int .i64 (tp+(od:Int))])∧Below w.heap.size w w':=by
 have K1:=hide C1;have K2:=hide C2;have K3:=hide C3;have K4:=hide C4
 clear C1 C2 C3 C4
 have e1:IntKind.i64.wrap (64 - (ln:Int)) = ((64 - ln:Nat):Int):=by rw [wrap_small _ (by omega)];omega
 have e2:IntKind.i64.wrap (((64 - ln:Nat):Int) - (od:Int)) = (d:Int):=by rw [wrap_small _ (by omega)];omega
 have e3:=wrap_small (tp+(od:Int)) (by omega)
 have d0:d≤64:=by omega
 have e0:IntKind.u64.wrap (m:Int) = (m:Int):=by
  show (m:Int) % 18446744073709551616 = _
  omega
 clear hd
 generalize 64 - ln = c0 at *
 go_enter Tryz.func292,Tryz.ntmps292
 go_wp2_with fail
 refine (uH K1 _ (Below.refl _ _)).mono ?_
 rintro e w1 ⟨⟨v,rfl,hv⟩,hb1⟩
 obtain ⟨n1,a1,c1,L1,rfl,i1⟩:=hv
 have hb1a:Below w1.heap.size w1 (w1.alloc (.cells #[.bool n1,.slice a1 L1.length c1,.int .i64 X1] 35)):=(Below.refl _ _).alloc (Nat.le_refl _) _
 have HV:=hide ((show IsDy w1 (.agg #[.bool n1,.slice a1 L1.length c1,.int .i64 X1]) z1 X1 from ⟨n1,a1,c1,L1,rfl,i1⟩).below hb1a)
 have x:=Box3.new w1 (.bool n1) (.slice a1 L1.length c1) (.int .i64 X1)
 have B1:=hide (hb1.trans (hb1a.mono hb1.size))
 have y0:=x.c0;have y1:=x.c1;have y2:=x.c2
 have X:=hide x
 clear i1 hb1 hb1a K1 x
 generalize L1.length = l1 at *
 go_wp2_with fail
 refine (uH K2 _ _ _ _ _ (uH HV)).mono ?_
 rintro e w2 ⟨rfl,hb1⟩
 have X2:=hide ((uH X).all hb1);have HV2:=hide ((uH HV).below hb1)
 have B2:=hide ((uH B1).trans (hb1.mono (uH B1).size))
 clear hb1 y0 y1 y2 HV B1 X K2
 have y0:=(uH X2).c0;have y1:=(uH X2).c1;have y2:=(uH X2).c2
 go_wp2_with fail
 refine (uH K3 _ _ _ _ _ (uH HV2)).mono ?_
 rintro e W0 ⟨rfl,hb1⟩
 have X3:=(uH X2).all hb1;have HV3:=hide ((uH HV2).below hb1)
 have B3:=hide ((uH B2).trans (hb1.mono (uH B2).size))
 clear hb1 y0 y1 y2 HV2 B2 X2
 generalize w1.heap.size = g at *
 have hK:∀ w',Below W0.heap.size W0 w'→Below W0.heap.size W0 w'∧w'.cell? ⟨g,0,none⟩ = some (.bool n1)∧w'.cell? ⟨g,1,none⟩ = some (.slice a1 l1 c1)∧w'.cell? ⟨g,2,none⟩ = some (.int .i64 X1):=fun w' h=>⟨h,(X3.all h).c0,(X3.all h).c1,(X3.all h).c2⟩
 have HK:=hide hK
 clear hK X3
 go_wp2_with fail
 go_region_held3 (fun w'=>Below W0.heap.size W0 w'∧w'.cell? ⟨g,0,none⟩ = some (.bool n1)∧w'.cell? ⟨g,1,none⟩ = some (.slice a1 l1 c1)∧w'.cell? ⟨g,2,none⟩ = some (.int .i64 X1))
  (first | exact uH HK _ (Below.refl _ _).drew | exact uH HK _ (by assumption) | fail "NO KEEP")
  (first | (go_at_call 208;refine (uH K4 _ _ _ _ _ ((uH HV3).below (And.left (by assumption)))).mono ?_;rintro e wn5 ⟨rfl,hb1⟩;have hB5:Below W0.heap.size W0 wn5:=Below.trans (And.left (by assumption)) (hb1.mono (Below.size (And.left (by assumption))));clear hb1) | (go_at_call 169;refine (uH K3 _ _ _ _ _ ((uH HV3).below (And.left (by assumption)))).mono ?_;rintro e wn6 ⟨rfl,hb1⟩;have hB6:Below W0.heap.size W0 wn6:=Below.trans (And.left (by assumption)) (hb1.mono (Below.size (And.left (by assumption))));clear hb1) | fail "NO ARM")
 have hW:Below W0.heap.size W0 _:=And.left (by assumption)
 have B4:=hide ((uH B3).trans (hW.mono (uH B3).size))
 clear hW
 go_wp2
 exact bodyPost_ret (v:=.tuple #[.int .u64 (o:Nat),.int .i64 (tp+(od:Int))]) (by simp [results,Tryz.results292,go_sem]) rfl ⟨rfl,uH B4⟩
theorem fD_pos (b:Nat) (hb:b < 18446744073709551616) (hf:fFin b = true) (h0:fK b ≠ 0) (hs:fS b = false):0≤fD b:=by
 have h1:=(fZ_neg b h0).2
 rw [hs] at h1
 have h2:=oM_sign (fZ b)
 rw [(fZ_level b hb hf).1,h1] at h2
 have:=of_decide_eq_false h2
 omega
theorem rsize_any (b:Nat) (w:World) (hb:b < 18446744073709551616) (hf:fFin b = true) (h0:fK b ≠ 0) (hs:fS b = false) (hT:Tab w) :
  Calls Tryz.prog 292 #[.int .u64 b] w fun r w'=>r = .returned (.tuple #[.int .u64 (nS b:Nat),.int .i64 (nT b)])∧Below w.heap.size w w':=by
 obtain ⟨x1,x2,x3,x4,x5,x6,x7,x8⟩:=dS_facts b hb hf h0
 obtain ⟨n1,n2⟩:=nS_facts b hb hf h0
 have hm:(fD b).natAbs < TOP:=small_TOP _ (by omega)
 have hz:fD b = ((fD b).natAbs:Int):=by have:=fD_pos b hb hf h0 hs;omega
 have hdT:dT b = (bl (fD b).natAbs:Int)+fX b:=rfl
 have hod:(((dT b % 2).toNat:Nat):Int) = dT b % 2:=by omega
 have hnT:nT b = dT b+(((dT b % 2).toNat:Nat):Int):=by unfold nT;omega
 rw [hnT]
 refine rsize_ways b (fD b).natAbs (bl (fD b).natAbs) (dT b % 2).toNat (64 - bl (fD b).natAbs - (dT b % 2).toNat) (nS b) (fD b) (fX b) (dT b) w x1 (by omega) x8 (by omega) (by rw [i64_and1,hod]) (by omega) ?_ (fun w' h=>value_some b w' hb hf (hT.all h)) ?_ ?_ ?_
 ·have e:(((fD b).natAbs:Nat):Int) * 2 ^ (64 - bl (fD b).natAbs - (dT b % 2).toNat) = ((nS b:Nat):Int):=by unfold nS;rw [Int.natCast_mul,Int.natCast_pow];rfl
  rw [e]
  show ((nS b:Nat):Int) % 18446744073709551616 = _
  omega
 ·intro w' n a l c h
  rw [← hz]
  obtain ⟨n',a',c',L',e1,e2⟩:=h
  simp only [Value.agg.injEq,Array.mk.injEq,List.cons.injEq,Value.bool.injEq,Value.slice.injEq,and_true] at e1
  obtain ⟨rfl,rfl,rfl,rfl⟩:=e1
  exact small6 e2 (by omega) (by omega)
 ·intro w' n a l c h
  obtain ⟨L,rfl,h1,h2,h3,h4⟩:=h.limbs hm
  have:=dtop_any n a c L (fX b) w' h1 (by omega)
  rwa [lenL_bl h1.2.1 h2,h3,wrap_small _ (by omega)] at this
 ·intro w' n a l c h
  obtain ⟨L,rfl,h1,h2,h3,h4⟩:=h.limbs hm
  have:=len_any n a c L w' h1 (by omega)
  rwa [lenL_bl h1.2.1 h2,h3] at this
end Go.Proofs.YtcbcmlaogehimaaGreatDoor
namespace Go.Proofs.YtcbcmlaogehimaaGreatDoor
open Go.RowKit
theorem sqrtFinite_n (a n S o:Nat) (tp E M X fl:Int) (w:World) (ht:-3000≤tp∧tp≤3000) (hE:E = tp / 2 - 54 - 1) (hev:tp % 2 = 0)
  (C1:∀ w',Below w.heap.size w w'→Calls Tryz.prog 292 #[.int .u64 a] w' fun r w''=>r = .returned (.tuple #[.int .u64 (n:Nat),.int .i64 tp])∧Below w'.heap.size w' w'')
  (C3:∀ w',Calls Tryz.prog 293 #[.int .u64 (n:Nat)] w' fun r w''=>r = .returned (.int .i64 (S:Nat))∧Below w'.heap.size w' w'')
  (C4:∀ w',Calls Tryz.prog 207 #[.int .i64 (S:Nat)] w' fun r w''=>∃ v,r = .returned v∧IsNum w'.heap.size w'' v (S:Nat)∧Below w'.heap.size w' w'')
  (C5:∀ B w' v,Below w.heap.size w w'→IsNum B w' v (S:Nat)→Calls Tryz.prog 206 #[v,.int .i64 E] w' fun r w''=>DyR w'' r 0 M X∧Below w'.heap.size w' w'')
  (C6:∀ w' v,Below w.heap.size w w'→IsDy w' v M X→Calls Tryz.prog 229 #[v] w' fun s w''=>s = .returned (.tuple #[.int .u64 (o:Nat),.int .u8 fl,.int .i64 0])∧Below w'.heap.size w' w'') :
  Calls Tryz.prog 286 #[.int .u64 a] w fun s w'=>s = .returned (.tuple #[.int .u64 (o:Nat),.int .u8 fl])∧Below w.heap.size w w':=by
 have K1:=hide C1;have K3:=hide C3;have K4:=hide C4;have K5:=hide C5;have K6:=hide C6
 clear C1 C3 C4 C5 C6
 obtain ⟨q,hq⟩:∃ q,q = tp / 2:=⟨_,rfl⟩
 have t1:Int.tdiv tp 2 = q:=by rw [Int.tdiv_eq_ediv];omega
 have e1:=wrap_small (q - 54) (by omega)
 have e2:=wrap_small (q - 54 - 1) (by omega)
 rw [← hq] at hE
 have q1:-1500≤q:=by omega
 have q2:q≤1500:=by omega
 clear hq hev
 go_enter Tryz.func286,Tryz.ntmps286
 go_wp2_with fail
 refine (uH K1 _ (Below.refl _ _)).mono ?_
 rintro e w1 ⟨rfl,hb1⟩
 have B2:=hide hb1
 clear hb1 K1
 go_wp2_with fail
 refine (uH K3 _).mono ?_
 rintro e w2 ⟨rfl,hb1⟩
 have B2:=hide ((uH B2).trans (hb1.mono (uH B2).size))
 clear hb1 K3
 go_wp2_with fail
 refine (uH K4 _).mono ?_
 rintro e w3 ⟨v,rfl,⟨n3,a3,c3,L3,rfl,i3⟩,hb1⟩
 have B3:=hide ((uH B2).trans (hb1.mono (uH B2).size))
 have I3:=hide (show IsNum w2.heap.size w3 (.agg #[.bool n3,.slice a3 L3.length c3]) (S:Nat) from ⟨n3,a3,c3,L3,rfl,i3⟩)
 clear hb1 K4 B2 i3
 generalize L3.length = l3 at *
 subst hE
 go_wp2_with fail
 refine (uH K5 _ _ _ (uH B3) (uH I3)).mono ?_
 rintro e w4 ⟨⟨v,rfl,hv⟩,hb1⟩
 obtain ⟨n1,a1,c1,L1,rfl,i1⟩:=hv
 have hb1a:Below w4.heap.size w4 (w4.alloc (.cells #[.bool n1,.slice a1 L1.length c1,.int .i64 X] 35)):=(Below.refl _ _).alloc (Nat.le_refl _) _
 have HX:=hide ((show IsDy w4 (.agg #[.bool n1,.slice a1 L1.length c1,.int .i64 X]) M X from ⟨n1,a1,c1,L1,rfl,i1⟩).below hb1a)
 have B4:=hide ((uH B3).trans ((hb1.trans (hb1a.mono hb1.size)).mono (uH B3).size))
 have x3:=Box3.new w4 (.bool n1) (.slice a1 L1.length c1) (.int .i64 X)
 have y0:=x3.c0;have y1:=x3.c1;have y2:=x3.c2
 clear i1 hb1 hb1a K5 B3 x3 I3
 generalize L1.length = l1 at *
 go_wp2_with fail
 refine (uH K6 _ _ (uH B4) (uH HX)).mono ?_
 rintro e w5 ⟨rfl,hb1⟩
 have B5:=hide ((uH B4).trans (hb1.mono (uH B4).size))
 clear hb1 K6 B4 y0 y1 y2 HX
 go_wp2
 exact bodyPost_ret (v:=.tuple #[.int .u64 o,.int .u8 fl]) (by simp [results,Tryz.results286,go_sem]) rfl ⟨rfl,uH B5⟩
def tB (a:Nat):Nat:=rS (nS a * 4 ^ 22)
theorem tB_ne (a:Nat) (ha:a < 18446744073709551616) (fa:fFin a = true) (a0:fK a ≠ 0):tB a ≠ 0:=by
 obtain ⟨n1,n2⟩:=nS_facts a ha fa a0
 have h1:1≤nS a * 4 ^ 22:=Nat.mul_pos (by omega) (by decide)
 have h:=isq_mono h1
 have:isq 1 = 1:=by decide
 unfold tB rS
 omega
theorem tB_lt (a:Nat) (ha:a < 18446744073709551616) (fa:fFin a = true) (a0:fK a ≠ 0):tB a < 36028797018963968:=rS_54 (nS a) (nS_facts a ha fa a0).1
theorem tB_root (a:Nat) (ha:a < 18446744073709551616) (fa:fFin a = true) (a0:fK a ≠ 0) :
  rnd (tB a) (nT a / 2 - 54 - 1) = tV a∧rflag (oM (tB a:Nat)).natAbs (oE (tB a:Nat) (nT a / 2 - 54 - 1)) = tF a:=by
 have h:=nS_root a ha fa a0
 rw [show nT a / 2 - 55 = nT a / 2 - 54 - 1 by omega] at h
 exact h
theorem rootBehind_tB (a:Nat) (w:World) (ha:a < 18446744073709551616) (fa:fFin a = true) (a0:fK a ≠ 0) :
  Calls Tryz.prog 293 #[.int .u64 (nS a:Nat)] w fun e w'=>e = .returned (.int .i64 (tB a:Nat))∧Below w.heap.size w w':=rootBehind_any (nS a) w (nS_facts a ha fa a0).1
theorem sqrtFinite_of (a n S r:Nat) (tp E fl:Int) (w:World) (ht:-3000≤tp∧tp≤3000) (hev:tp % 2 = 0) (hE:E = tp / 2 - 54 - 1)
  (s1:S ≠ 0) (s2:S < 36028797018963968) (q1:rnd S E = r) (q2:rflag (oM (S:Nat)).natAbs (oE (S:Nat) E) = fl) (hT:Tab w)
  (C1:∀ w',Below w.heap.size w w'→Calls Tryz.prog 292 #[.int .u64 a] w' fun r w''=>r = .returned (.tuple #[.int .u64 (n:Nat),.int .i64 tp])∧Below w'.heap.size w' w'')
  (C3:∀ w',Calls Tryz.prog 293 #[.int .u64 (n:Nat)] w' fun r w''=>r = .returned (.int .i64 (S:Nat))∧Below w'.heap.size w' w'') :
  Calls Tryz.prog 286 #[.int .u64 a] w fun s w'=>s = .returned (.tuple #[.int .u64 (r:Nat),.int .u8 fl])∧Below w.heap.size w w':=by
 have hz:((S:Nat):Int).natAbs < TOP:=small_TOP _ (by omega)
 have hz0:((S:Nat):Int) ≠ 0:=by omega
 have htz:tz ((S:Nat):Int).natAbs < 57:=tz_lt _ 57 (by omega) (by rw [Int.natAbs_natCast];exact lt57 (by omega))
 have hE2:-2300≤E∧E≤2300:=by omega
 have hok:dOk (S:Nat) E = true:=by
  unfold dOk
  rw [decide_eq_true (show -32768≤E∧E≤32768 by omega),decide_eq_true (show -16384≤E+(tz ((S:Nat):Int).natAbs:Int)∧E+(tz ((S:Nat):Int).natAbs:Int)≤16384 by omega),Bool.or_true]
  rfl
 have hRt:dRt (oM (S:Nat)) (oE (S:Nat) E) = true:=by
  unfold dRt
  rw [if_neg (oM_ne _ hz0).1,oE_ne _ _ hz0,decide_eq_true (oM_ne _ hz0).2,decide_eq_true (by omega)]
  rfl
 have hle:(oM (S:Nat)).natAbs < TOP:=Nat.lt_of_le_of_lt (oM_le _) hz
 have C6:∀ w' v,Below w.heap.size w w'→IsDy w' v (oM (S:Nat)) (oE (S:Nat) E)→_:=fun w' v h hv=>round_dy hv hle hRt (hT.all h)
 rw [(rnd_odd ((S:Nat):Int) E).1,oM_sign,decide_eq_false (show ¬ ((S:Nat):Int) < 0 by omega),wrd_false,Int.natAbs_natCast,q1,q2] at C6
 refine sqrtFinite_n a n S r tp E _ _ _ w ht hE hev C1 C3
  (fun w'=>of_any _ w' (by omega) (by omega)) (fun B w' v h hv=>?_) C6
 have:=make_num E hv hz (by omega) (hT.all h)
 unfold dErr dM dX at this
 rw [hok] at this
 exact this.mono fun r w'' ⟨u,g1,g2,g3⟩=>⟨⟨u,g1,g2⟩,g3⟩
theorem sqrtFinite_any (a:Nat) (w:World) (ha:a < 18446744073709551616) (fa:fFin a = true) (a0:fK a ≠ 0) (hs:fS a = false) (hT:Tab w) :
  Calls Tryz.prog 286 #[.int .u64 a] w fun r w'=>r = .returned (.tuple #[.int .u64 (tV a:Nat),.int .u8 (tF a)])∧Below w.heap.size w w':=by
 obtain ⟨x1,x2,x3,x4,x5,x6,x7,x8⟩:=dS_facts a ha fa a0
 have hdT:dT a = (bl (fD a).natAbs:Int)+fX a:=rfl
 have hnT:nT a = dT a+dT a % 2:=rfl
 obtain ⟨q1,q2⟩:=tB_root a ha fa a0
 exact sqrtFinite_of a (nS a) (tB a) (tV a) (nT a) _ (tF a) w (by omega) (by omega) rfl (tB_ne a ha fa a0) (tB_lt a ha fa a0) q1 q2 hT (fun w' h=>rsize_any a w' ha fa a0 hs (hT.all h)) (fun w'=>rootBehind_tB a w' ha fa a0)
theorem rsqrt_z (a:Nat) (w:World) 
  (C1:∀ w',Calls Tryz.prog 164 #[.int .u64 a] w' fun r w''=>r = .returned (.int .i64 0)∧Below w'.heap.size w' w'') :
  Calls Tryz.prog 271 #[.int .u64 a] w fun r w'=>r = .returned (.tuple #[.int .u64 (a:Nat),.int .u8 0])∧Below w.heap.size w w':=by
 have K1:=hide C1
 clear C1
 go_enter Tryz.func271,Tryz.ntmps271
 go_wp2_with fail
 refine (uH K1 _).mono ?_
 rintro e w1 ⟨rfl,hb1⟩
 have B:=hide hb1
 clear hb1 K1
 go_wp2
 exact bodyPost_ret (v:=.tuple #[.int .u64 (a:Nat),.int .u8 0]) (by simp [results,Tryz.results271,go_sem]) rfl ⟨rfl,uH B⟩
theorem rsqrt_i (a:Nat) (k:Int) (w:World) (h0:(k == 0) = false) (h1:((a:Int) == 9218868437227405312) = true)
  (C1:∀ w',Calls Tryz.prog 164 #[.int .u64 a] w' fun r w''=>r = .returned (.int .i64 k)∧Below w'.heap.size w' w'') :
  Calls Tryz.prog 271 #[.int .u64 a] w fun r w'=>r = .returned (.tuple #[.int .u64 (a:Nat),.int .u8 0])∧Below w.heap.size w w':=by
 have K1:=hide C1
 clear C1
 go_enter Tryz.func271,Tryz.ntmps271
 go_wp2_with fail
 refine (uH K1 _).mono ?_
 rintro e w1 ⟨rfl,hb1⟩
 have B:=hide hb1
 clear hb1 K1
 go_wp2
 exact bodyPost_ret (v:=.tuple #[.int .u64 (a:Nat),.int .u8 0]) (by simp [results,Tryz.results271,go_sem]) rfl ⟨rfl,uH B⟩
theorem rsqrt_n (a:Nat) (w:World) (h1:((a:Int) == 9218868437227405312) = false)
  (C1:∀ w',Calls Tryz.prog 164 #[.int .u64 a] w' fun r w''=>r = .returned (.int .i64 4)∧Below w'.heap.size w' w'') :
  Calls Tryz.prog 271 #[.int .u64 a] w fun r w'=>r = .returned (.tuple #[.int .u64 9221120237041090560,.int .u8 0])∧Below w.heap.size w w':=by
 have K1:=hide C1
 clear C1
 go_enter Tryz.func271,Tryz.ntmps271
 go_wp2_with fail
 refine (uH K1 _).mono ?_
 rintro e w1 ⟨rfl,hb1⟩
 have B:=hide hb1
 clear hb1 K1
 go_wp2
 exact bodyPost_ret (v:=.tuple #[.int .u64 9221120237041090560,.int .u8 0]) (by simp [results,Tryz.results271,go_sem]) rfl ⟨rfl,uH B⟩
theorem rsqrt_m (a:Nat) (k:Int) (w:World) (h0:(k == 0) = false) (h4:k ≠ 4) (h1:((a:Int) == 9218868437227405312) = false)
  (C1:∀ w',Calls Tryz.prog 164 #[.int .u64 a] w' fun r w''=>r = .returned (.int .i64 k)∧Below w'.heap.size w' w'')
  (C2:∀ w',Calls Tryz.prog 161 #[.int .u64 a] w' fun r w''=>r = .returned (.bool true)∧Below w'.heap.size w' w'') :
  Calls Tryz.prog 271 #[.int .u64 a] w fun r w'=>r = .returned (.tuple #[.int .u64 9221120237041090560,.int .u8 16])∧Below w.heap.size w w':=by
 have K1:=hide C1
 clear C1
 go_enter Tryz.func271,Tryz.ntmps271
 go_wp2_with fail
 refine (uH K1 _).mono ?_
 rintro e w1 ⟨rfl,hb1⟩
 have B:=hide hb1
 clear hb1 K1
 have K2:=hide C2
 clear C2
 go_wp2_with fail
 refine (uH K2 _).mono ?_
 rintro e w2 ⟨rfl,hb1⟩
 have B:=hide ((uH B).trans (hb1.mono (uH B).size))
 clear hb1 K2
 go_wp2
 exact bodyPost_ret (v:=.tuple #[.int .u64 9221120237041090560,.int .u8 16]) (by simp [results,Tryz.results271,go_sem]) rfl ⟨rfl,uH B⟩
theorem rsqrt_f (a:Nat) (k fl:Int) (o:Nat) (w:World) (h0:(k == 0) = false) (h4:k ≠ 4) (h1:((a:Int) == 9218868437227405312) = false) (hT:Tab w)
  (C1:∀ w',Calls Tryz.prog 164 #[.int .u64 a] w' fun r w''=>r = .returned (.int .i64 k)∧Below w'.heap.size w' w'')
  (C2:∀ w',Calls Tryz.prog 161 #[.int .u64 a] w' fun r w''=>r = .returned (.bool false)∧Below w'.heap.size w' w'')
  (C3:∀ w',Tab w'→Calls Tryz.prog 286 #[.int .u64 a] w' fun r w''=>r = .returned (.tuple #[.int .u64 (o:Nat),.int .u8 fl])∧Below w'.heap.size w' w'') :
  Calls Tryz.prog 271 #[.int .u64 a] w fun r w'=>r = .returned (.tuple #[.int .u64 (o:Nat),.int .u8 fl])∧Below w.heap.size w w':=by
 have K1:=hide C1
 clear C1
 go_enter Tryz.func271,Tryz.ntmps271
 go_wp2_with fail
 refine (uH K1 _).mono ?_
 rintro e w1 ⟨rfl,hb1⟩
 have B:=hide hb1
 clear hb1 K1
 have K2:=hide C2
 clear C2
 go_wp2_with fail
 refine (uH K2 _).mono ?_
 rintro e w2 ⟨rfl,hb1⟩
 have B:=hide ((uH B).trans (hb1.mono (uH B).size))
 clear hb1 K2
 have K3:=hide C3;have HT:=hide (hT.all (uH B))
 clear C3 hT
 go_wp2_with fail
 refine (uH K3 _ (uH HT)).mono ?_
 rintro e w3 ⟨rfl,hb1⟩
 have B:=hide ((uH B).trans (hb1.mono (uH B).size))
 clear hb1 K3 HT
 go_wp2
 exact bodyPost_ret (v:=.tuple #[.int .u64 (o:Nat),.int .u8 fl]) (by simp [results,Tryz.results271,go_sem]) rfl ⟨rfl,uH B⟩
theorem rsqrt_any (a:Nat) (w:World) (ha:a < 18446744073709551616) (hT:Tab w) :
  Calls Tryz.prog 271 #[.int .u64 a] w fun r w'=>r = .returned (.tuple #[.int .u64 (sV a:Nat),.int .u8 (sF a)])∧Below w.heap.size w w':=by
 have C1:=fun w'=>kind_any a w' ha
 have C2:=fun w'=>ssign_any a w' ha
 by_cases a4:fK a = 4
 ·rw [show sV a = 9221120237041090560 by unfold sV;rw [if_pos a4],show sF a = 0 by unfold sF;rw [if_pos a4]]
  rw [a4] at C1
  have hne:a ≠ 9218868437227405312:=fun h=>by rw [h] at a4;revert a4;decide
  exact rsqrt_n a w (by simp;omega) C1
 by_cases a0:fK a = 0
 ·rw [show sV a = a by unfold sV;rw [if_neg a4,if_pos (Or.inl a0)],show sF a = 0 by unfold sF;rw [if_neg a4,if_pos (Or.inl a0)]]
  rw [a0] at C1
  exact rsqrt_z a w C1
 by_cases aI:a = 9218868437227405312
 ·rw [show sV a = a by unfold sV;rw [if_neg a4,if_pos (Or.inr aI)],show sF a = 0 by unfold sF;rw [if_neg a4,if_pos (Or.inr aI)]]
  exact rsqrt_i a _ w (by simp [a0]) (by simp;omega) C1
 have hne:¬ (fK a = 0 ∨ a = 9218868437227405312):=by omega
 cases hs:fS a
 ·rw [show sV a = tV a by unfold sV;rw [if_neg a4,if_neg hne,if_neg (by rw [hs];decide)],show sF a = tF a by unfold sF;rw [if_neg a4,if_neg hne,if_neg (by rw [hs];decide)]]
  rw [hs] at C2
  have a3:fK a ≠ 3:=fun h=>aI (by
   have:=b_wrd a ha
   rw [hs,wrd_false] at this
   have h3:=((fK_rungs a).2.1.1 h)
   omega)
  exact rsqrt_f a _ _ _ w (by simp [a0]) a4 (by simp;omega) hT C1 C2 (fun w' t=>sqrtFinite_any a w' ha (fin_of a a3 a4) a0 hs t)
 ·rw [show sV a = 9221120237041090560 by unfold sV;rw [if_neg a4,if_neg hne,if_pos hs],show sF a = 16 by unfold sF;rw [if_neg a4,if_neg hne,if_pos hs]]
  rw [hs] at C2
  exact rsqrt_m a _ w (by simp [a0]) a4 (by simp;omega) C1 C2
end Go.Proofs.YtcbcmlaogehimaaGreatDoor
namespace Go.Proofs.YtcbcmlaogehimaaGreatDoor
open Go.RowKit
def BitsAt (w:World) (ao:Option Addr) (cap:Nat) (I:List Int):Prop :=
 I.length≤cap∧(∀ x ∈ I,0≤x∧x≤18446744073709551615)∧(I = [] ∨ ∃ b off,ao = some ⟨b,off,none⟩∧b < w.heap.size∧∀ i,i < I.length→w.cell? ⟨b,off+i,none⟩ = some (.int .u64 (I[i]?.getD 0)))
theorem BitsAt.below {w w':World} {ao:Option Addr} {cap:Nat} {I:List Int} (h:BitsAt w ao cap I) (hb:Below w.heap.size w w'):BitsAt w' ao cap I:=by
 refine ⟨h.1,h.2.1,?_⟩
 rcases h.2.2 with h | ⟨b,off,h1,h2,h3⟩
 ·exact .inl h
 ·refine .inr ⟨b,off,h1,Nat.lt_of_lt_of_le h2 hb.size,fun i hi=>?_⟩
  rw [hb.cell (p:=⟨b,off+i,none⟩) h2]
  exact h3 i hi
def atB (I:List Int) (j:Nat):Nat:=(I[j]?.getD 0).toNat
theorem BitsAt.wf {w:World} {ao:Option Addr} {cap:Nat} {I:List Int} (h:BitsAt w ao cap I) (j:Nat):I[j]?.getD 0 = (atB I j:Int)∧atB I j < 18446744073709551616:=by
 unfold atB
 by_cases hi:j < I.length
 ·have:=h.2.1 _ (List.getElem_mem hi)
  rw [List.getElem?_eq_getElem hi]
  simp only [Option.getD_some]
  omega
 ·rw [List.getElem?_eq_none (by omega)];simp
theorem BitsAt.ne {w:World} {ao:Option Addr} {cap:Nat} {I:List Int} (h:BitsAt w ao cap I) (h0:0 < I.length):∃ b off,ao = some ⟨b,off,none⟩∧b < w.heap.size∧∀ i,i < I.length→w.cell? ⟨b,off+i,none⟩ = some (.int .u64 (atB I i:Int)):=by
 rcases h.2.2 with e | ⟨b,off,e1,e2,e3⟩
 ·rw [e] at h0;simp at h0
 ·exact ⟨b,off,e1,e2,fun i hi=>by rw [e3 i hi,(h.wf i).1]⟩
end Go.Proofs.YtcbcmlaogehimaaGreatDoor
namespace Go.Proofs.YtcbcmlaogehimaaGreatDoor
open Go.RowKit
def p2 (e:Int):Rat:=(2:Rat) ^ e
end Go.Proofs.YtcbcmlaogehimaaGreatDoor
namespace Go.Proofs.YtcbcmlaogehimaaGreatDoor
open Go.RowKit
def sqV (k:Int) (s x:Nat):Nat:=aV s (mV (xV x (-k)) (xV x (-k)))
end Go.Proofs.YtcbcmlaogehimaaGreatDoor
