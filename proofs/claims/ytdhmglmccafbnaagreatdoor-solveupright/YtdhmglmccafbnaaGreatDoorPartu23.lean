/- Part 23 of the texts. -/
import Derived.Test.YtdhmglmccafbnaaGreatDoorPartu21
import Derived.Test.YtdhmglmccafbnaaGreatDoorPartu19
import Derived.Laws.Cover2
import Derived.Laws.Externs
import Derived.Test.YtdhmglmccafbnaaGreatDoorPartu03
import Derived.Laws.FloatArith
import Derived.Test.YtdhmglmccafbnaaGreatDoorPartu20
import Derived.Test.YtdhmglmccafbnaaGreatDoorPartu14
import Derived.Test.YtdhmglmccafbnaaGreatDoorPartu10
import Derived.Test.YtdhmglmccafbnaaGreatDoorPartu22
import Derived.OwnWalk
import Derived.Deep.RegionHeld3
import Derived.Deep.AppendLies
import Derived.Maps.AppendAt
set_option maxHeartbeats 4000000
set_option maxRecDepth 20000
namespace Go.Proofs.YtdhmglmccafbnaaGreatDoor
open Go.RowKit
theorem mul_level7 (z1 z2 lo1 lo2:Int) (h1:z1 ≠ 0) (h2:z2 ≠ 0) (l1:lo1≤oE z1 lo1) (l2:lo2≤oE z2 lo2) :
  oM (z1 * z2) = oM (oM z1 * oM z2)∧oE (z1 * z2) (lo1+lo2) = oE (oM z1 * oM z2) (oE z1 lo1+oE z2 lo2):=by
 have x1:=oM_level z1 lo1 h1
 have x2:=oM_level z2 lo2 h2
 obtain ⟨i,hi⟩:∃ i:Nat,oE z1 lo1 = lo1+i:=⟨(oE z1 lo1 - lo1).toNat,by omega⟩
 obtain ⟨j,hj⟩:∃ j:Nat,oE z2 lo2 = lo2+j:=⟨(oE z2 lo2 - lo2).toNat,by omega⟩
 rw [hi,show (lo1+(i:Int) - lo1).toNat = i by omega] at x1
 rw [hj,show (lo2+(j:Int) - lo2).toNat = j by omega] at x2
 have e:z1 * z2 = oM z1 * oM z2 * 2 ^ (i+j):=by
  rw [Int.pow_add,show oM z1 * oM z2 * (2 ^ i * 2 ^ j) = oM z1 * 2 ^ i * (oM z2 * 2 ^ j) by ac_rfl,x1,x2]
 have s:=oM_scale (oM z1 * oM z2) (i+j) (lo1+lo2)
 rw [← e] at s
 refine ⟨s.1,?_⟩
 rw [s.2,hi,hj]
 congr 1
 omega
theorem oE_ge (z lo:Int) (h:z ≠ 0):lo≤oE z lo:=by
 rw [oE_ne _ _ h];omega
theorem rmul7 {w:World} {v u:Value} {m1 m2 e1 e2:Int} (hv:IsDy w v m1 e1) (hu:IsDy w u m2 e2) (h1:m1.natAbs < 1152921504606846976) (h2:m2.natAbs < 1152921504606846976) (b1:-3000≤e1∧e1≤3000) (b2:-3000≤e2∧e2≤3000) :
  Calls Tryz.prog 25 #[v,u] w fun r w'=>∃ q,r = .returned q∧IsDy w' q (oM (m1 * m2)) (oE (m1 * m2) (e1+e2))∧Below w.heap.size w w':=by
 have p30:(1152921504606846976:Nat)≤4294967296 ^ 30:=by decide +kernel
 obtain ⟨n,a,c,L,rfl,g1,g2,g3,g4,g5⟩:=hv.right (small_TOP _ (by omega))
 obtain ⟨n',a',c',L',rfl,k1,k2,k3,k4,k5⟩:=hu.right (small_TOP _ (by omega))
 have v1:val L = m1.natAbs:=by rw [← g3,natAbs_sval]
 have v2:val L' = m2.natAbs:=by rw [← k3,natAbs_sval]
 have l1:L.length≤30:=(length_le_iff L g1.2.1 (right_canon g2).2.1 30).2 (by rw [v1];exact Nat.lt_of_lt_of_le h1 p30)
 have l2:L'.length≤30:=(length_le_iff L' k1.2.1 (right_canon k2).2.1 30).2 (by rw [v2];exact Nat.lt_of_lt_of_le h2 p30)
 have:=rmul_any n n' a a' c c' L L' e1 e2 w g1 k1 l1 l2
 rw [g3,k3] at this
 have hm:(m1 * m2).natAbs < 2 ^ 120:=by
  rw [Int.natAbs_mul]
  have:m1.natAbs * m2.natAbs < 1152921504606846976 * 1152921504606846976:=Nat.mul_lt_mul_of_lt_of_le h1 (Nat.le_of_lt h2) (by decide)
  exact Nat.lt_of_lt_of_le this (by decide)
 have hE:(if m1 * m2 = 0 then 0 else IntKind.i64.wrap (IntKind.i64.wrap (e1+e2)+tz (m1 * m2).natAbs)) = oE (m1 * m2) (e1+e2):=by
  by_cases h0:m1 * m2 = 0
  ·rw [if_pos h0,h0,oE_zero]
  ·have ht:tz (m1 * m2).natAbs < 120:=tz_lt _ 120 (by omega) hm
   rw [if_neg h0,oE_ne _ _ h0,wrap_small (e1+e2) (by omega),wrap_small _ (by omega)]
 rwa [hE] at this
end Go.Proofs.YtdhmglmccafbnaaGreatDoor
namespace Go.Proofs.YtdhmglmccafbnaaGreatDoor
open Go.RowKit
def IsLv (w:World) (v:Value) (lo z:Int):Prop:=IsDy w v (oM z) (oE z lo)
theorem IsLv.below {w w':World} {v:Value} {lo z:Int} (h:IsLv w v lo z) (hb:Below w.heap.size w w'):IsLv w' v lo z:=IsDy.below h hb
theorem IsLv.zero (w:World) (lo:Int):IsLv w (.agg #[.bool false,.slice none 0 0,.int .i64 0]) lo 0:=by
 unfold IsLv
 rw [oM_zero,oE_zero]
 exact IsDy.zero w none 0
theorem IsLv.lower {w:World} {v:Value} {lo z:Int} (h:IsLv w v lo z) (k:Nat):IsLv w v (lo - k) (z * 2 ^ k):=by
 unfold IsLv
 have s:=oM_scale z k (lo - k)
 rw [show lo - (k:Int)+k = lo by omega] at s
 rw [s.1,s.2]
 exact h
theorem rvalueN (b:Nat) (w:World) (h:b < 18446744073709551616) (hf:fFin b = true) :
  Calls Tryz.prog 65 #[.int .u64 b] w fun r w'=>∃ u,r = .returned u∧IsLv w' u (-1074) (fZ b)∧Below w.heap.size w w':=by
 obtain ⟨d1,d2⟩:=fZ_level b h hf
 unfold IsLv
 rw [d1,d2]
 exact rvalue_any b w h
theorem fZ_ne {b:Nat} (h:fZ b ≠ 0):fK b ≠ 0:=fun e=>h (by
 have:=fZ_abs b
 rw [(fK_zero b).1 e,rv_zero] at this
 omega)
theorem fD_few (b:Nat) (h:b < 18446744073709551616) (hf:fFin b = true):(oM (fZ b)).natAbs < 9007199254740992∧-1074≤oE (fZ b) (-1074)∧oE (fZ b) (-1074)≤1024:=by
 by_cases h0:fZ b = 0
 ·rw [h0,oM_zero,oE_zero];decide
 ·obtain ⟨d1,d2⟩:=fZ_level b h hf
  obtain ⟨z1,z2,z3,z4,z5,z6,z7,z8,z9⟩:=sc_facts b h hf (fZ_ne h0)
  rw [d1,d2]
  exact ⟨z2,z5,z6⟩
theorem rmulV {a b:Nat} {w:World} {v u:Value} (ha:a < 18446744073709551616) (hb:b < 18446744073709551616) (fa:fFin a = true) (fb:fFin b = true) (hv:IsLv w v (-1074) (fZ a)) (hu:IsLv w u (-1074) (fZ b)) :
  Calls Tryz.prog 25 #[v,u] w fun r w'=>∃ q,r = .returned q∧IsLv w' q (-2148) (fZ a * fZ b)∧Below w.heap.size w w':=by
 obtain ⟨x1,x2,x3⟩:=fD_few a ha fa
 obtain ⟨y1,y2,y3⟩:=fD_few b hb fb
 have:=rmul7 hv hu (by omega) (by omega) (by omega) (by omega)
 unfold IsLv
 by_cases h0:fZ a = 0
 ·rw [h0] at this ⊢
  rw [oM_zero,Int.zero_mul,oM_zero,oE_zero] at this
  rw [Int.zero_mul,oM_zero,oE_zero]
  exact this
 by_cases h1:fZ b = 0
 ·rw [h1] at this ⊢
  rw [oM_zero,Int.mul_zero,oM_zero,oE_zero] at this
  rw [Int.mul_zero,oM_zero,oE_zero]
  exact this
 obtain ⟨m1,m2⟩:=mul_level7 (fZ a) (fZ b) (-1074) (-1074) h0 h1 (oE_ge _ _ h0) (oE_ge _ _ h1)
 rw [show (-1074:Int)+-1074 = -2148 by decide] at m2
 rw [m1,m2]
 exact this
theorem rscaleL {w:World} {v:Value} {lo:Int} {W:Nat} {z:Int} (n:Int) (hv:IsLv w v lo z) (h1:Lvl lo W z) (hn:-32768≤n∧n≤32768) :
  Calls Tryz.prog 47 #[v,.int .i64 n] w fun r w'=>∃ q,r = .returned q∧IsLv w' q (lo+n) z∧Below w.heap.size w w':=by
 unfold IsLv at *
 obtain ⟨na,ao,ca,A,rfl,a1,a2,a3,a4,a5⟩:=hv.right h1.right.2
 have x1:=dRt_in h1.right.1
 have:=rscale_any na ao ca A _ n w a1 a2 x1 hn
 rw [a3,oM_oM] at this
 by_cases h0:z = 0
 ·subst h0
  rw [oM_zero,oE_zero] at *
  exact this
 ·rw [oE_oM _ _ h0] at this
  have hx:oE z (lo+n) = oE z lo+n:=by rw [oE_ne _ _ h0,oE_ne _ _ h0];omega
  rw [hx]
  exact this
end Go.Proofs.YtdhmglmccafbnaaGreatDoor
namespace Go.Proofs.YtdhmglmccafbnaaGreatDoor
open Go.RowKit
attribute [local go_sem ↓] Go.wp_at_zero Go.wp_at_succ
theorem Lvl.more {lo:Int} {W W':Nat} {z:Int} (h:Lvl lo W z) (hW:W≤W') (h1:lo+W'≤16384) (h2:W'≤16384):Lvl lo W' z :=
 ⟨Nat.lt_of_lt_of_le h.1 (Nat.pow_le_pow_right (by decide) hW),h.2.1,h1,h2⟩
def sqK (I:List Int):Nat→Int
 | 0=>0
 | k+1=>sqK I k+fZ (atB I k) * fZ (atB I k)
def B96:Nat:=2 ^ 4196
theorem B96_mul:B96 = 2 ^ 2098 * 2 ^ 2098:=by decide +kernel
theorem B96_lt:64 * B96 < 2 ^ 4203:=by decide +kernel
theorem sq_nonnegI (x:Int):0≤x * x:=by
 rcases Int.le_total 0 x with h | h
 ·exact Int.mul_nonneg h h
 ·exact Int.mul_nonneg_of_nonpos_of_nonpos h h
theorem fZ_few (b:Nat) (hf:fFin b = true):(fZ b * fZ b).natAbs < B96:=by
 rw [Int.natAbs_mul,B96_mul]
 have h:=fZ_lt b hf
 generalize (2:Nat) ^ 2098 = P at *
 exact Nat.mul_lt_mul'' h h
theorem sqK_le (I:List Int) (n:Nat) (h:fnK I n = true):∀ k,k≤n→0≤sqK I k∧(sqK I k).natAbs≤k * B96:=by
 intro k
 induction k with
 | zero=>intro _;exact ⟨Int.le_refl _,by rw [Nat.zero_mul];exact Nat.le_refl _⟩
 | succ k ih =>
  intro hk
  obtain ⟨i1,i2⟩:=ih (by omega)
  have hf:fFin (atB I k) = true:=by
   have h2:(fnK I k && fFin (atB I k)) = true:=fnK_down I n (k+1) hk h
   rw [Bool.and_eq_true] at h2
   exact h2.2
  have h3:=fZ_few (atB I k) hf
  have h4:0≤fZ (atB I k) * fZ (atB I k):=sq_nonnegI _
  show 0≤sqK I k+fZ (atB I k) * fZ (atB I k)∧(sqK I k+fZ (atB I k) * fZ (atB I k)).natAbs≤(k+1) * B96
  generalize fZ (atB I k) * fZ (atB I k) = q at *
  generalize sqK I k = s at *
  rw [Nat.succ_mul]
  generalize B96 = P at *
  omega
theorem sqK_lvl (I:List Int) (n:Nat) (hn:n≤64) (h:fnK I n = true) (k:Nat) (hk:k≤n):Lvl (-2148) 4203 (sqK I k):=by
 obtain ⟨h1,h2⟩:=sqK_le I n h k hk
 refine ⟨?_,by decide,by decide,by decide⟩
 exact Nat.lt_of_le_of_lt (Nat.le_trans h2 (Nat.mul_le_mul_right _ (by omega))) B96_lt
theorem fZ_lvl2 (b:Nat) (hf:fFin b = true):Lvl (-2148) 4203 (fZ b * fZ b):=by
 have h:=fZ_few b hf
 refine ⟨?_,by decide,by decide,by decide⟩
 exact Nat.lt_of_lt_of_le h (Nat.le_trans (show B96≤64 * B96 by omega) (Nat.le_of_lt B96_lt))
theorem r9squares_any (ao:Option Addr) (c:Nat) (I:List Int) (w:World) (hI:BitsAt w ao c I) (hn:I.length≤64) (hf:fnK I I.length = true) :
  Calls Tryz.prog 50 #[.slice ao I.length c] w fun e w'=>∃ v,e = .returned v∧IsLv w' v (-2148) (sqK I I.length)∧Below w.heap.size w w':=by
 have HI:=hide hI
 obtain ⟨n,hnn⟩:∃ n,I.length = n:=⟨_,rfl⟩
 rw [hnn] at hn hf ⊢
 have HN:=hide hnn
 have HF:=hide hf
 have HL:=hide (fun k hk=>sqK_lvl I n hn hf k hk)
 have XR:=hide ((Box3.new w (.bool false) (.slice none 0 0) (.int .i64 0)).old (.cells #[.bool false,.slice none 0 0,.int .i64 0] 41))
 have xs:=Box3.new (w.alloc (.cells #[.bool false,.slice none 0 0,.int .i64 0] 41)) (.bool false) (.slice none 0 0) (.int .i64 0)
 rw [size_alloc9] at xs
 have XS:=hide xs
 have B0:=hide ((below_alloc9 w (.cells #[.bool false,.slice none 0 0,.int .i64 0] 41)).alloc (by simp) (.cells #[.bool false,.slice none 0 0,.int .i64 0] 41))
 clear hI hnn xs hf
 go_enter Tryz.func50,Tryz.ntmps50
 go_wp2_with fail
 go_loopw [4] (fun i wr=>∃ (k:Nat) (nn:Bool) (aa:Option Addr) (ll cc:Nat) (X:Int),k≤n∧i = .int .i64 k∧Hid (Box3 wr w.heap.size (.bool false) (.slice none 0 0) (.int .i64 0))∧Hid (Box3 wr (w.heap.size+1) (.bool nn) (.slice aa ll cc) (.int .i64 X))∧Hid (IsLv wr (.agg #[.bool nn,.slice aa ll cc,.int .i64 X]) (-2148) (sqK I k))∧Hid (Below w.heap.size w wr)) (fun i _=>n - (intOf i).toNat)
 case atStart=>exact ⟨0,false,none,0,0,0,Nat.zero_le _,rfl,XR,XS,IsLv.zero _ _,B0⟩
 case round =>
  clear XR XS B0
  obtain ⟨k,nn,aa,ll,cc,X,hk,rfl,xr,xs,hs,hB⟩:=hrel
  by_cases hlt:k < n
  ·have hkI:(k:Int) < (n:Int):=by omega
   obtain ⟨b,off,hao,hb,hc⟩:=((uH HI).below hB.out).ne (by rw [uH HN];omega)
   have hck:=hc k (by rw [uH HN];exact hlt)
   have x64:=(uH HI).lt k
   have hfx:fFin (atB I k) = true:=by
    have h2:(fnK I k && fFin (atB I k)) = true:=fnK_down I n (k+1) (by omega) (uH HF)
    rw [Bool.and_eq_true] at h2
    exact h2.2
   have C1:=hide (fun w'=>rvalueN (atB I k) w' x64 hfx)
   have C2:=hide (fun w' v (hv:IsLv w' v (-1074) (fZ (atB I k)))=>rmulV x64 x64 hfx hfx hv hv)
   have l1:=uH HL k (by omega)
   have C3:=hide (fun w' v u (hv:IsLv w' v (-2148) (sqK I k)) (hu:IsLv w' u (-2148) (fZ (atB I k) * fZ (atB I k)))=>(show Calls Tryz.prog 26 #[v,u] w' fun r w''=>∃ q,r = .returned q∧IsLv w'' q (-2148) (sqK I k+fZ (atB I k) * fZ (atB I k))∧Below w'.heap.size w' w'' from raddN hv hu l1 (fZ_lvl2 _ hfx)))
   have eV:Hid (sqK I (k+1) = sqK I k+fZ (atB I k) * fZ (atB I k)):=rfl
   subst hao
   clear hc x64 hfx l1
   generalize sqK I k+fZ (atB I k) * fZ (atB I k) = s2 at *
   generalize fZ (atB I k) * fZ (atB I k) = p at *
   generalize fZ (atB I k) = z at *
   generalize atB I k = x at *
   go_wp2_with fail
   refine (uH C1 _).mono ?_
   rintro e wv ⟨q,rfl,⟨n1,a1,c1,L1,rfl,i1⟩,hb1⟩
   have hv:IsLv wv (.agg #[.bool n1,.slice a1 L1.length c1,.int .i64 (oE z (-1074))]) (-1074) z:=⟨n1,a1,c1,L1,rfl,i1⟩
   generalize L1.length = l1 at *
   generalize oE z (-1074) = X1 at *
   have HV:=hide (hv.below (below_alloc9 wv (.cells #[.bool n1,.slice a1 l1 c1,.int .i64 X1] 41)))
   have bv:=hB.out.trans (hb1.mono hB.out.size)
   have BV:=hide (bv.alloc bv.size (.cells #[.bool n1,.slice a1 l1 c1,.int .i64 X1] 41))
   have HS:=hide (((uH hs).below hb1).below (below_alloc9 wv (.cells #[.bool n1,.slice a1 l1 c1,.int .i64 X1] 41)))
   have XR:=hide (((uH xr).all hb1).old (.cells #[.bool n1,.slice a1 l1 c1,.int .i64 X1] 41))
   have XS:=hide (((uH xs).all hb1).old (.cells #[.bool n1,.slice a1 l1 c1,.int .i64 X1] 41))
   have XV:=hide (Box3.new wv (.bool n1) (.slice a1 l1 c1) (.int .i64 X1))
   clear i1 hv hb1 bv hB hs xr xs C1
   go_wp2_with fail
   refine at_world (fun W=>Below w.heap.size w W∧Box3 W w.heap.size (.bool false) (.slice none 0 0) (.int .i64 0)∧Box3 W (w.heap.size+1) (.bool nn) (.slice aa ll cc) (.int .i64 X)∧Box3 W wv.heap.size (.bool n1) (.slice a1 l1 c1) (.int .i64 X1)∧IsLv W (.agg #[.bool nn,.slice aa ll cc,.int .i64 X]) (-2148) (sqK I k)∧IsLv W (.agg #[.bool n1,.slice a1 l1 c1,.int .i64 X1]) (-1074) z) ⟨uH BV,uH XR,uH XS,uH XV,uH HS,uH HV⟩ ?_
   rintro W0 ⟨b0,x0,x1,x2,h1,h2⟩
   have b0:=b0.drew;have x0:=x0.drew;have x1:=x1.drew;have x2:=x2.drew
   have h1:=h1.below ((Below.refl W0.heap.size W0).drew);have h2:=h2.below ((Below.refl W0.heap.size W0).drew)
   clear BV XR XS XV HS HV
   have hgs:w.heap.size≤w.heap.size+1:=by omega
   have hne:w.heap.size ≠ w.heap.size+1:=by omega
   have HZ:=hide hgs;have HNE:=hide hne
   clear hgs hne
   generalize wv.heap.size = gv at *
   have y0:=x1.c0;have y1:=x1.c1;have y2:=x1.c2;have f0:=x1.free 0;have f1:=x1.free 1;have f2:=x1.free 2
   have v0:=x2.c0;have v1:=x2.c1;have v2:=x2.c2
   have X0:=hide x0;have XX1:=hide x1;have XX2:=hide x2;have H1:=hide h1;have H2:=hide h2;have BB:=hide b0
   clear x0 x1 x2 h1 h2 b0
   go_region_with (first | (go_at_call 25;refine (uH C2 _ _ (uH H2)).mono ?_;rintro e w4 ⟨q,rfl,⟨n4,a4,c4,L4,rfl,i4⟩,hb4⟩;clear y0 y1 y2 f0 f1 f2 v0 v1 v2;have Q4:=hide (show IsLv w4 (.agg #[.bool n4,.slice a4 L4.length c4,.int .i64 (oE p (-2148))]) (-2148) p from ⟨n4,a4,c4,L4,rfl,i4⟩);generalize L4.length = l4 at *;generalize oE p (-2148) = X4 at *;have x1:=(uH XX1).all hb4;have BB:=hide ((uH BB).trans (hb4.mono (uH BB).size));have X0:=hide ((uH X0).all hb4);have H1:=hide ((uH H1).below hb4);have XX1:=hide x1;have y0:=x1.c0;have y1:=x1.c1;have y2:=x1.c2;have f0:=x1.free 0;have f1:=x1.free 1;have f2:=x1.free 2;clear i4 hb4 x1) | (go_at_call 26;refine (uH C3 _ _ _ (uH H1) (uH Q4)).mono ?_;rintro e w5 ⟨q,rfl,⟨n5,a5,c5,L5,rfl,i5⟩,hb5⟩;clear y0 y1 y2 f0 f1 f2;have Q5:=hide (show IsLv w5 (.agg #[.bool n5,.slice a5 L5.length c5,.int .i64 (oE s2 (-2148))]) (-2148) s2 from ⟨n5,a5,c5,L5,rfl,i5⟩);generalize L5.length = l5 at *;generalize oE s2 (-2148) = X5 at *;have x1:=(uH XX1).all hb5;have BB:=hide ((uH BB).trans (hb5.mono (uH BB).size));have X0:=hide ((uH X0).all hb5);have XX1:=hide x1;have y0:=x1.c0;have y1:=x1.c1;have y2:=x1.c2;have f0:=x1.free 0;have f1:=x1.free 1;have f2:=x1.free 2;clear i5 hb5 x1) | fail "NO ARM")
   all_goals
    have X0':=hide ((((uH X0).other (p:=⟨w.heap.size+1,0,none⟩) (uH HNE) (.bool n5)).other (p:=⟨w.heap.size+1,1,none⟩) (uH HNE) (.slice a5 l5 c5)).other (p:=⟨w.heap.size+1,2,none⟩) (uH HNE) (.int .i64 X5))
    have X1':=hide ((uH XX1).put (.bool n5) (.slice a5 l5 c5) (.int .i64 X5))
    have Q':=hide (IsDy.put3 (uH Q5) (uH XX1) (.bool n5) (.slice a5 l5 c5) (.int .i64 X5))
    have B':=hide ((((uH BB).setCell (p:=⟨w.heap.size+1,0,none⟩) (uH HZ) (.bool n5)).setCell (p:=⟨w.heap.size+1,1,none⟩) (uH HZ) (.slice a5 l5 c5)).setCell (p:=⟨w.heap.size+1,2,none⟩) (uH HZ) (.int .i64 X5))
    clear X0 XX1 Q5 BB
    go_wp2_with fail
    go_round
    case rel=>exact ⟨k+1,n5,a5,l5,c5,X5,by omega,by go_num,X0',X1',by rw [uH eV];exact Q',B'⟩
    case measure=>simp [intOf];omega
  ·have hkk:k = n:=by omega
   subst hkk
   have y0:=(uH xs).c0
   have y1:=(uH xs).c1
   have y2:=(uH xs).c2
   have r0:=(uH xr).c0
   have r1:=(uH xr).c1
   have r2:=(uH xr).c2
   have f0:=(uH xr).free 0
   have f1:=(uH xr).free 1
   have f2:=(uH xr).free 2
   have hb1:w.heap.size+1 ≠ w.heap.size:=by omega
   have HS:=hide (IsDy.put3 (uH hs) (uH xr) (.bool nn) (.slice aa ll cc) (.int .i64 X))
   have BE:=hide (((hB.out.setCell (p:=⟨w.heap.size,0,none⟩) (Nat.le_refl _) (.bool nn)).setCell (p:=⟨w.heap.size,1,none⟩) (Nat.le_refl _) (.slice aa ll cc)).setCell (p:=⟨w.heap.size,2,none⟩) (Nat.le_refl _) (.int .i64 X))
   have xe:=(uH xr).put (.bool nn) (.slice aa ll cc) (.int .i64 X)
   have e0:=xe.c0;have e1:=xe.c1;have e2:=xe.c2
   clear xe hb1 xr xs hs hB
   go_wp2_with fail
   exact bodyPost_ret (v:=.agg #[.bool nn,.slice aa ll cc,.int .i64 X]) (by simp [results,Tryz.results50,go_sem,e0,e1,e2]) rfl ⟨_,rfl,uH HS,uH BE⟩
end Go.Proofs.YtdhmglmccafbnaaGreatDoor
namespace Go.Proofs.YtdhmglmccafbnaaGreatDoor
open Go.RowKit
def toN (I:List Int):List Nat:=I.map Int.toNat
theorem toN_len (I:List Int):(toN I).length = I.length:=by simp [toN]
theorem toN_at (I:List Int) (j:Nat) (hj:j < I.length):(toN I)[j]? = some (atB I j):=by simp [toN,atB,hj]
theorem toN_take (I:List Int) (j:Nat) (hj:j < I.length):(toN I).take (j+1) = (toN I).take j ++ [atB I j]:=by
 rw [List.take_add_one,toN_at I j hj]
 rfl
theorem toN_all (I:List Int) (P:Nat→Prop) (h:∀ j,j < I.length→P (atB I j)):∀ x ∈ toN I,P x:=by
 intro x hx
 obtain ⟨j,hj,rfl⟩:=List.getElem_of_mem hx
 have hj':j < I.length:=by rw [← toN_len];exact hj
 have e:=toN_at I j hj'
 rw [List.getElem?_eq_getElem hj] at e
 rw [Option.some.inj e]
 exact h j hj'
theorem bgF_snoc (x:Nat):∀ (xs:List Nat) (m:Nat),bgF m (xs ++ [x]) = mx (bgF m xs) (fR x):=by
 intro xs
 induction xs with
 | nil=>intro m;rfl
 | cons y ys ih=>intro m;exact ih _
theorem ssV_snoc (k:Int) (x:Nat):∀ (xs:List Nat) (s:Nat),ssV k s (xs ++ [x]) = sqV k (ssV k s xs) x:=by
 intro xs
 induction xs with
 | nil=>intro m;rfl
 | cons y ys ih=>intro m;exact ih _
theorem bgK_list (I:List Int):∀ j,j≤I.length→bgK I j = bgF 0 ((toN I).take j):=by
 intro j
 induction j with
 | zero=>intro _;rfl
 | succ j ih =>
  intro hj
  rw [toN_take I j (by omega),bgF_snoc,← ih (by omega)]
  rfl
theorem bgK_all (I:List Int):bgK I I.length = bgF 0 (toN I):=by
 rw [bgK_list I _ (Nat.le_refl _),List.take_of_length_le (by rw [toN_len];exact Nat.le_refl _)]
theorem dtK_list (k:Int) (I:List Int):∀ j,j≤I.length→dtK (tL k I) (tL k I) j = ssV k 0 ((toN I).take j):=by
 intro j
 induction j with
 | zero=>intro _;rfl
 | succ j ih =>
  intro hj
  rw [toN_take I j (by omega),ssV_snoc,← ih (by omega)]
  show aV (dtK (tL k I) (tL k I) j) (mV (atB (tL k I) j) (atB (tL k I) j)) = _
  rw [show atB (tL k I) j = xV (atB I j) (-k) from mkL_at _ _ j (by omega)]
  rfl
theorem dtK_all (k:Int) (I:List Int):dtK (tL k I) (tL k I) I.length = ssV k 0 (toN I):=by
 rw [dtK_list k I _ (Nat.le_refl _),List.take_of_length_le (by rw [toN_len];exact Nat.le_refl _)]
theorem nmV_nrV (I:List Int):nmV I = nrV (toN I):=by
 unfold nmV nrV
 rw [dtK_all,bgK_all]
end Go.Proofs.YtdhmglmccafbnaaGreatDoor
namespace Go.Proofs.YtdhmglmccafbnaaGreatDoor
open Go.RowKit
attribute [local go_sem ↓] Go.wp_at_zero Go.wp_at_succ
theorem rmul_wide (na nb:Bool) (ao bo:Option Addr) (ca cb:Nat) (A B:List Nat) (x y:Int) (w:World) (hA:LimbsAt w ao ca A) (hB:LimbsAt w bo cb B) (la:A.length≤512) (lb:B.length≤512) (hz:(sval na A * sval nb B).natAbs < TOP) :
  Calls Tryz.prog 25 #[.agg #[.bool na,.slice ao A.length ca,.int .i64 x],.agg #[.bool nb,.slice bo B.length cb,.int .i64 y]] w fun r w'=>∃ v,r = .returned v∧IsDy w' v (oM (sval na A * sval nb B)) (if sval na A * sval nb B = 0 then 0 else IntKind.i64.wrap (IntKind.i64.wrap (x+y)+tz (sval na A * sval nb B).natAbs))∧Below w.heap.size w w':=by
 have CM:=hide (fun w' h h'=>refMul_any na nb ao bo ca cb A B w' h h' (by omega) (by omega))
 have CO:=hide (fun e' w' u B' (iu:IsNum B' w' u (sval na A * sval nb B)) (he:e' = IntKind.i64.wrap (x+y))=>show Calls Tryz.prog 45 #[u,.int .i64 e'] w' fun r w''=>∃ u,r = .returned u∧IsDy w'' u (oM (sval na A * sval nb B)) (if sval na A * sval nb B = 0 then 0 else IntKind.i64.wrap (IntKind.i64.wrap (x+y)+tz (sval na A * sval nb B).natAbs))∧Below w'.heap.size w' w'' by
  subst he
  exact rof_num _ (iu.toM hz) (by decide) (wrap_range _))
 clear hz
 generalize sval na A * sval nb B = z at *
 generalize (if z = 0 then 0 else IntKind.i64.wrap (IntKind.i64.wrap (x+y)+tz z.natAbs)) = ox at *
 generalize oM z = om at *
 have hb0:Below w.heap.size w (((w.alloc (.cells #[.bool na,.slice ao A.length ca,.int .i64 x] 41)).alloc (.cells #[.bool nb,.slice bo B.length cb,.int .i64 y] 41)).alloc (.cells #[.bool false,.slice none 0 0,.int .i64 0] 41)) :=
  (((Below.refl _ _).alloc (Nat.le_refl _) _).alloc (by simp) _).alloc (by simp;omega) _
 have x0:Box3 (((w.alloc (.cells #[.bool na,.slice ao A.length ca,.int .i64 x] 41)).alloc (.cells #[.bool nb,.slice bo B.length cb,.int .i64 y] 41)).alloc (.cells #[.bool false,.slice none 0 0,.int .i64 0] 41)) w.heap.size (.bool na) (.slice ao A.length ca) (.int .i64 x):=((Box3.new _ _ _ _).old _).old _
 have x1:Box3 (((w.alloc (.cells #[.bool na,.slice ao A.length ca,.int .i64 x] 41)).alloc (.cells #[.bool nb,.slice bo B.length cb,.int .i64 y] 41)).alloc (.cells #[.bool false,.slice none 0 0,.int .i64 0] 41)) (w.heap.size+1) (.bool nb) (.slice bo B.length cb) (.int .i64 y):=by
  have:=(Box3.new (w.alloc (.cells #[.bool na,.slice ao A.length ca,.int .i64 x] 41)) (.bool nb) (.slice bo B.length cb) (.int .i64 y)).old (.cells #[.bool false,.slice none 0 0,.int .i64 0] 41)
  simpa using this
 have x2:Box3 (((w.alloc (.cells #[.bool na,.slice ao A.length ca,.int .i64 x] 41)).alloc (.cells #[.bool nb,.slice bo B.length cb,.int .i64 y] 41)).alloc (.cells #[.bool false,.slice none 0 0,.int .i64 0] 41)) (w.heap.size+1+1) (.bool false) (.slice none 0 0) (.int .i64 0):=by
  have:=Box3.new ((w.alloc (.cells #[.bool na,.slice ao A.length ca,.int .i64 x] 41)).alloc (.cells #[.bool nb,.slice bo B.length cb,.int .i64 y] 41)) (.bool false) (.slice none 0 0) (.int .i64 0)
  simpa using this
 have B0:=hide hb0;have X0:=hide x0;have X1:=hide x1;have X2:=hide x2
 clear hb0 x0 x1 x2
 go_enter Tryz.func25,Tryz.ntmps25
 go_wp2_with fail
 refine at_world (fun W=>Below w.heap.size w W∧Box3 W w.heap.size (.bool na) (.slice ao A.length ca) (.int .i64 x)∧Box3 W (w.heap.size+1) (.bool nb) (.slice bo B.length cb) (.int .i64 y)∧Box3 W (w.heap.size+1+1) (.bool false) (.slice none 0 0) (.int .i64 0)) ⟨uH B0,uH X0,uH X1,uH X2⟩ ?_
 clear B0 X0 X1 X2
 rintro W0 ⟨b0,x0,x1,x2⟩
 have s0:w.heap.size+1+1 < W0.heap.size:=x2.lt
 have hK:∀ w',Below (w.heap.size+1+1) W0 w'→Below (w.heap.size+1+1) W0 w'∧w'.cell? ⟨w.heap.size,0,none⟩ = some (.bool na)∧w'.cell? ⟨w.heap.size,1,none⟩ = some (.slice ao A.length ca)∧w'.cell? ⟨w.heap.size,2,none⟩ = some (.int .i64 x)∧w'.cell? ⟨w.heap.size+1,0,none⟩ = some (.bool nb)∧w'.cell? ⟨w.heap.size+1,1,none⟩ = some (.slice bo B.length cb)∧w'.cell? ⟨w.heap.size+1,2,none⟩ = some (.int .i64 y):=fun w' h =>
  ⟨h,(x0.below h (by omega)).c0,(x0.below h (by omega)).c1,(x0.below h (by omega)).c2,(x1.below h (by omega)).c0,(x1.below h (by omega)).c1,(x1.below h (by omega)).c2⟩
 have HK:=hide hK;have BB:=hide b0;have X2:=hide x2
 clear hK b0 x0 x1 x2
 go_region_held3 (fun w'=>Below (w.heap.size+1+1) W0 w'∧w'.cell? ⟨w.heap.size,0,none⟩ = some (.bool na)∧w'.cell? ⟨w.heap.size,1,none⟩ = some (.slice ao A.length ca)∧w'.cell? ⟨w.heap.size,2,none⟩ = some (.int .i64 x)∧w'.cell? ⟨w.heap.size+1,0,none⟩ = some (.bool nb)∧w'.cell? ⟨w.heap.size+1,1,none⟩ = some (.slice bo B.length cb)∧w'.cell? ⟨w.heap.size+1,2,none⟩ = some (.int .i64 y))
  (first | exact uH HK _ (Below.refl _ _).drew | exact uH HK _ (by assumption) | exact uH HK _ (below_put3 hB2 (by omega) _ _ _))
  (first | (go_at_call 72;refine (uH CM _ (hA.below ((uH BB).trans ((Below.refl _ _).drew))) (hB.below ((uH BB).trans ((Below.refl _ _).drew)))).mono ?_;rintro e w3 ⟨v,rfl,⟨n4,a4,c4,L4,rfl,i4⟩,hb1⟩;have hB1:Below (w.heap.size+1+1) W0 w3:=((Below.refl _ _).drew).trans (hb1.mono (by simp;omega));have X3:=hide ((uH X2).drew.below hb1 (by simp;omega));have IZ:=hide (show IsNum 0 w3 (.agg #[.bool n4,.slice a4 L4.length c4]) z from ⟨n4,a4,c4,L4,rfl,i4⟩);have s1:=hb1.size;have BB1:=hide ((uH BB).trans (hB1.mono (by omega)));clear hb1 i4) | (go_at_call 45;refine (uH CO _ _ _ _ (uH IZ) (by first | rfl | exact (wrap64_is _))).mono ?_;rintro e w4 ⟨u,rfl,iu,hb2⟩;obtain ⟨n5,a5,c5,L5,rfl,i5⟩:=iu.num;have hB2:Below (w.heap.size+1+1) W0 w4:=hB1.trans (hb2.mono (by simp at s1;omega));have X4:=(uH X3).below hb2 (by simp at s1;omega);have y0:=X4.c0;have y1:=X4.c1;have y2:=X4.c2;have f0:=X4.free 0;have f1:=X4.free 1;have f2:=X4.free 2;have IU:=hide iu;have X5:=hide X4;have BB2:=hide ((uH BB1).trans (hb2.mono (by simp at s1;omega)));clear hb2 iu i5 X4))
 go_wp2
 refine bodyPost_ret (v:=.agg #[.bool n5,.slice a5 L5.length c5,.int .i64 ox]) (by simp [results,Tryz.results25,go_sem,y0,y1,y2]) rfl ⟨_,rfl,(uH IU).put3 (uH X5) _ _ _,below_put3 (uH BB2) (by omega) _ _ _⟩
theorem rmulL {w:World} {v u:Value} {lo1 lo2:Int} {W1 W2:Nat} {z1 z2:Int} (hv:IsLv w v lo1 z1) (hu:IsLv w u lo2 z2) (h1:Lvl lo1 W1 z1) (h2:Lvl lo2 W2 z2) (hW:W1+W2≤16384) :
  Calls Tryz.prog 25 #[v,u] w fun r w'=>∃ q,r = .returned q∧IsLv w' q (lo1+lo2) (z1 * z2)∧Below w.heap.size w w':=by
 unfold IsLv at *
 have hb:∀ {z lo:Int} {W:Nat},Lvl lo W z→-16384≤oE z lo∧oE z lo≤16384:=fun {z lo W} h=>by
  by_cases z0:z = 0
  ·rw [z0,oE_zero];decide
  ·have:=h.tzs z0
   have:=h.2
   rw [oE_ne _ _ z0];omega
 have b1:=hb h1
 have b2:=hb h2
 obtain ⟨na,ao,ca,A,rfl,a1,a2,a3,a4,a5⟩:=hv.right h1.right.2
 obtain ⟨nb,bo,cb,B,rfl,c1,c2,c3,c4,c5⟩:=hu.right h2.right.2
 have hw:(oM z1 * oM z2).natAbs < 2 ^ (W1+W2):=by
  rw [Int.natAbs_mul]
  exact Nat.lt_of_le_of_lt (Nat.mul_le_mul (oM_le z1) (oM_le z2)) (mul_lt_pow h1.1 h2.1)
 have ho:(oM z1 * oM z2).natAbs < TOP:=lt_TOP hw hW
 have:=rmul_wide na nb ao bo ca cb A B (oE z1 lo1) (oE z2 lo2) w a1 c1 a4 c4 (by rw [a3,c3];exact ho)
 rw [a3,c3] at this
 by_cases e1:z1 = 0
 ·subst e1
  rw [oM_zero,Int.zero_mul,oM_zero,if_pos rfl] at this
  rw [Int.zero_mul,oM_zero,oE_zero]
  exact this
 by_cases e2:z2 = 0
 ·subst e2
  rw [oM_zero,Int.mul_zero,oM_zero,if_pos rfl] at this
  rw [Int.mul_zero,oM_zero,oE_zero]
  exact this
 obtain ⟨m1,m2⟩:=mul_level7 z1 z2 lo1 lo2 e1 e2 (oE_ge _ _ e1) (oE_ge _ _ e2)
 have o1:=(oM_ne z1 e1).1
 have o2:=(oM_ne z2 e2).1
 have o0:oM z1 * oM z2 ≠ 0:=Int.mul_ne_zero o1 o2
 have ht:tz (oM z1 * oM z2).natAbs < W1+W2:=tz_lt _ (W1+W2) (by omega) hw
 rw [if_neg o0,wrap_small (oE z1 lo1+oE z2 lo2) (by omega),wrap_small _ (by omega),← oE_ne _ (oE z1 lo1+oE z2 lo2) o0] at this
 rw [m1,m2]
 exact this
theorem raddL {w:World} {v u:Value} {lo:Int} {W:Nat} {z1 z2:Int} (hv:IsLv w v lo z1) (hu:IsLv w u lo z2) (h1:Lvl lo W z1) (h2:Lvl lo W z2) :
  Calls Tryz.prog 26 #[v,u] w fun r w'=>∃ q,r = .returned q∧IsLv w' q lo (z1+z2)∧Below w.heap.size w w':=raddN hv hu h1 h2
end Go.Proofs.YtdhmglmccafbnaaGreatDoor
namespace Go.Proofs.YtdhmglmccafbnaaGreatDoor
open Go.RowKit
attribute [local go_sem ↓] Go.wp_at_zero Go.wp_at_succ
theorem infoBits:(Tryz.prog.info? 28).map (fun i=>(i.zero,i.size,i.bytes)) = some (some (.int .u64 0),1,8):=by kernel_rfl
def OwnB (base:Nat) (w:World) (v:Value) (S:List Nat):Prop:=w.ownsRow base 28 1 v S.length (S.map bitV)∧∀ x ∈ S,x < 18446744073709551616
theorem OwnB.below {base:Nat} {w w':World} {v:Value} {S:List Nat} (h:OwnB base w v S) (hb:Below w.heap.size w w'):OwnB base w' v S :=
 ⟨h.1.kept (row:=none) ⟨hb.os,hb.tape,hb.output,hb.size,fun k hk _=>hb.block k hk⟩ (by cases hv:v.ownBlock <;> simp),h.2⟩
theorem OwnB.bits {base:Nat} {w:World} {v:Value} {S:List Nat} (h:OwnB base w v S):∃ ao cap,v = .slice ao S.length cap∧BitsAt w ao cap (S.map (fun x:Nat=>(x:Int))):=by
 have hl:(S.map bitV).length = S.length:=by simp
 have hf:∀ x ∈ S.map (fun x:Nat=>(x:Int)),0≤x∧x≤18446744073709551615:=by
  intro x hx
  obtain ⟨y,hy,rfl⟩:=List.mem_map.1 hx
  have:=h.2 y hy
  omega
 rcases h.1.2 with ⟨hv,h0⟩ | ⟨g,cap,cur,hv,hg,hh,hc,hm,hs,ht⟩
 ·have:S = []:=List.length_eq_zero_iff.1 (by omega)
  subst this
  exact ⟨none,0,hv,⟨by simp,by simp,.inl rfl⟩⟩
 ·refine ⟨some ⟨g,0,none⟩,cap,hv,⟨by simp;omega,hf,.inr ⟨g,0,rfl,(Array.getElem?_eq_some_iff.1 hh).1,fun i hi=>?_⟩⟩⟩
  have hi':i < S.length:=by simpa using hi
  have q:(S.map bitV)[i]? = some (.int .u64 ((S[i]:Nat):Int)):=by
   rw [List.getElem?_map,List.getElem?_eq_getElem hi'];rfl
  rw [← ht,List.getElem?_take,if_pos (by omega)] at q
  rw [cell_of_row w g _ _ _ _ hh,Nat.zero_add]
  have e:(S.map (fun x:Nat=>(x:Int)))[i]?.getD 0 = ((S[i]:Nat):Int):=by simp [hi']
  rw [e]
  simpa using q
theorem OwnB.nil (w:World) (base:Nat) (h:base≤w.heap.size):OwnB base (w.alloc (.cells #[] 28)) (.slice (some ⟨w.heap.size,0,none⟩) 0 0) [] :=
 ⟨World.ownsRow_made w #[] 0 h (by simp [maxLen]) (by simp),by simp⟩
theorem OwnB.snoc {base:Nat} {w:World} {v:Value} {S:List Nat} {x n:Nat} (hn:n = S.length) (h:w.ownsRow base 28 1 v (n+1) (S.map bitV ++ [.int .u64 (x:Int)])) (hS:∀ x ∈ S,x < 18446744073709551616) (hx:x < 18446744073709551616):OwnB base w v (S ++ [x]):=by
 subst hn
 refine ⟨by simpa [bitV] using h,fun y hy=>?_⟩
 rcases List.mem_append.1 hy with h1 | h1
 ·exact hS y h1
 ·simp at h1;subst h1;exact hx
def fsL (f:Nat→Nat) (k:Nat):List Nat:=(List.range k).map f
theorem fsL_len (f:Nat→Nat) (k:Nat):(fsL f k).length = k:=by simp [fsL]
theorem fsL_succ (f:Nat→Nat) (k:Nat):fsL f (k+1) = fsL f k ++ [f k]:=by simp [fsL,List.range_succ]
end Go.Proofs.YtdhmglmccafbnaaGreatDoor
namespace Go.Proofs.YtdhmglmccafbnaaGreatDoor
open Go.RowKit
theorem wpList_append_ran {P:Program} (w:World) {ops:Array Oper} {rest:List Oper} {o:Oper} {a:Act} {Q:Exit→Act→World→Prop} (hgd:o.guard = none) (s x:Operand) (t:TypeId)
  (ho:o.op = .call { callee:=.builtin .append,args:=#[s,x],argTypes:=#[t,t] }) (v1 v2 v':Value) (w':World) (hs:a.eval s = v1) (hx:a.eval x = v2)
  (hr:(Builtin.append_ #[t,t] o.type #[v1,v2]).run P w = .ok v' w') (h:wpList P ops Q rest (a.put o.dst v') w'):wpList P ops Q (o :: rest) a w :=
 wpList_plain hgd fun _ hK=>by
  unfold Oper.wp execOp
  simp only [ho,resolve,invoke,builtin,Sem.run_bind,Sem.run_pure,Result.andThen_ok,List.map_toArray,List.map_cons,List.map_nil,hs,hx,hr]
  exact hK _ _ h
def Apart (v u:Value):Prop:=∀ g,v.ownBlock = some g→u.ownBlock ≠ some g
theorem OwnB.push {base:Nat} {w:World} {v:Value} {S:List Nat} (h:OwnB base w v S) (x:Nat) (hx:x < 18446744073709551616) (hl:S.length≤1000000) (hb:base≤w.heap.size) (ty:TypeId) :
  ∃ v' w',(Builtin.append_ #[23,23] ty #[v,.slice (some ⟨w.heap.size,0,none⟩) 1 1]).run Tryz.prog (w.alloc (.cells #[.int .u64 (x:Int)] 28)) = .ok v' w'∧OwnB base w' v' (S ++ [x])∧Below base w w' ∧
   (∀ u T,OwnB base w u T→Apart v u→OwnB base w' u T∧Apart v' u)∧(∀ ao c I,BitsAt w ao c I→(I = [] ∨ ∃ b off,ao = some ⟨b,off,none⟩∧v.ownBlock ≠ some b)→BitsAt w' ao c I):=by
 obtain ⟨i0,hi,hz0,hz1,hz2⟩:=info_parts infoBits
 obtain ⟨v',w',e1,e2,e3,e4,e5⟩:=run_append_own_at (P:=Tryz.prog) (w.alloc (.cells #[.int .u64 (x:Int)] 28)) base 23 ty 28 i0 (.int .u64 0) 1 8 Tryz.underlying23 hi hz0 hz1 hz2 rfl (by decide) v S.length (S.map bitV) (h.1.alloc _) ⟨w.heap.size,0,none⟩ 1 1 [.int .u64 (x:Int)] rfl (cell_one_new _ _ _) (fun u hu=>by simp at hu;subst hu;rfl) (by unfold maxLen;omega) (by omega) (by simp;omega)
 have hn:OwnB base w' v' (S ++ [x]):=OwnB.snoc rfl e2 h.2 hx
 refine ⟨v',w',e1,hn,((below_alloc9 w _).mono hb).grown e3 (by simp;omega) (fun g hg=>(h.1.lt g hg).1),?_,?_⟩
 ·intro u T hu ha
  refine ⟨⟨(hu.1.alloc _).kept e3 ?_,hu.2⟩,?_⟩
  ·cases hv:u.ownBlock with
   | none=>exact .inl rfl
   | some g =>
    right
    intro e
    exact ha g e.symm hv
  ·intro g hg hg2
   rcases e5 with e5 | e5
   ·exact ha g (by rw [← e5];exact hg) hg2
   ·rw [hg] at e5
    have h1:=(hu.1.lt g hg2).2
    simp at e5
    omega
 ·intro ao c I hI hn2
  have hA:=hI.below (below_alloc9 w (.cells #[.int .u64 (x:Int)] 28))
  refine ⟨hA.1,hA.2.1,?_⟩
  rcases hA.2.2 with e | ⟨b,off,f1,f2,f3⟩
  ·exact .inl e
  rcases hn2 with e | ⟨b',off',g1,g2⟩
  ·exact .inl e
  rw [f1] at g1
  simp only [Option.some.injEq,Addr.mk.injEq] at g1
  obtain ⟨rfl,rfl,_⟩:=g1
  refine .inr ⟨b,off,f1,Nat.lt_of_lt_of_le f2 e3.size,fun i hi=>?_⟩
  exact e3.cell (f3 i hi) (fun e=>g2 e.symm)
end Go.Proofs.YtdhmglmccafbnaaGreatDoor
