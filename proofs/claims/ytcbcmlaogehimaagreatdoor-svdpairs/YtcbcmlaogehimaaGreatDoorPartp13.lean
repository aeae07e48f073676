/- Part 13 of the texts. -/
import Derived.Test.YtcbcmlaogehimaaGreatDoorPartp12
set_option maxHeartbeats 4000000
namespace Go.Proofs.YtcbcmlaogehimaaGreatDoor
open Go.RowKit
theorem LP(v:Nat)(E:Int)(h:v≠0):pN v (E-aE v E)<1152921504606846976:=by
 obtain⟨F,G,H⟩:=cD v E
 obtain⟨I,J,z⟩:=bK v h
 generalize aE v E=l at*
 have A:(2:Nat)^54<1152921504606846976:=by decide
 unfold pN
 split
 ·obtain⟨k,u⟩:=Int.eq_ofNat_of_zero_le (show 0≤E-l+1 by omega)
  rw[u,Int.toNat_natCast]
  have d:v*2^k<2^bl v*2^k:=Nat.mul_lt_mul_of_pos_right z (Nat.two_pow_pos _)
  rw[←Nat.pow_add]at d
  have D:(2:Nat)^(bl v+k)≤2^54:=g6 (by omega)
  omega
 ·obtain⟨k,u⟩:=Int.eq_ofNat_of_zero_le (show 0≤-(E-l+1) by omega)
  rw[u,Int.toNat_natCast]
  have d:v<2^54*2^k:=by
   rw[←Nat.pow_add]
   exact Nat.lt_of_lt_of_le z (g6 (by omega))
  have D:v/2^k<2^54:=Nat.div_lt_of_lt_mul (by rw[Nat.mul_comm];exact d)
  omega
theorem jv(P:Program)(w:World)(d:Array TypeId)(t:TypeId)(x y:Int):(Builtin.max_ d t #[.int .i64 x,.int .i64 y]).run P w=.ok (.int .i64 (max x y)) w:=by
 rw[run_max_int2]
 congr 2
 split<;>omega
theorem ue(D:Bool)(F:Option Addr)(G l M k R:Nat)(E t d:Int)(w:World)(U:0<l)(ht:-100000≤t∧t≤1024)(X:max (t-53) (-1074)=d)(hk:d+1074=k)(O:k≤2045)(hM:M≤9007199254740992)
  (Y:∀h,Below w.heap.size w h→Calls Tryz.prog 169 #[.agg #[.bool D,.slice F l G,.int .i64 E]] h fun e u=>e=.returned (.int .i64 t)∧Below h.heap.size h u)
  (Z:∀h,Below w.heap.size w h→Calls Tryz.prog 281 #[.agg #[.bool D,.slice F l G,.int .i64 E],.int .i64 d] h fun e u=>e=.returned (.int .u64 M)∧Below h.heap.size h u)
  (hR:R=M+k*4503599627370496) (g1:decide (d≤E)=true):
  Calls Tryz.prog 261 #[.agg #[.bool D,.slice F l G,.int .i64 E]] w fun e h=>e=.returned (.tuple #[.int .u64 R,.int .u8 0])∧Below w.heap.size w h:=by
 have Q:decide (0<l)=true:=decide_eq_true U
 have hz:((l:Int)==0)=false:=by simp;omega
 have hm:=fun W ts t'=>jv Tryz.prog W ts t' (t-53) (-1074)
 rw[X]at hm
 have KT:=ac Y;have KR:=ac Z
 have hg:decide ((1024:Int)<t)=false:=decide_eq_false (by omega)
 have w1:IntKind.i64.wrap (t-53)=t-53:=by simp only[IntKind.wrap_i64];omega
 have w2:IntKind.i64.wrap (d- -1074)=(k:Int):=by simp only[IntKind.wrap_i64];omega
 have w3:IntKind.u64.wrap (k:Int)=(k:Int):=by simp only[IntKind.wrap_u64];omega
 have H:=ac (show(M:Int)+(k:Int)*4503599627370496=(R:Int) by omega)
 clear Y Z X hR
 have J:=ac ((Below.refl w.heap.size w).alloc (Nat.le_refl _) (.cells #[.bool D,.slice F l G,.int .i64 E] 35))
 have X0:=ac (al.new w (.bool D) (.slice F l G) (.int .i64 E))
 go_enter Tryz.func261,Tryz.ntmps261
 go_wp2_with fail
 refine(uH KT _ (uH J)).mono ?_
 rintro e aa ⟨rfl,z⟩
 have I:=(uH X0).all z
 have K:=ac ((uH J).trans (z.mono (uH J).size))
 have X1:=ac I
 have y0:=I.c0;have y1:=I.c1;have y2:=I.c2
 clear z I KT J X0
 go_wp2_with fail
 refine(uH KR _ (uH K)).mono ?_
 rintro e ae ⟨rfl,A⟩
 have L:=(uH X1).all A
 have B2:=ac ((uH K).trans (A.mono (uH K).size))
 clear y0 y1 y2
 have y0:=L.c0;have y1:=L.c1;have y2:=L.c2
 clear A L KR K X1
 go_upto_region 8 with(fail)
 rw[uH H]
 clear hm w1 w2 w3 hk O hM H U Q hz hg ht
 go_wp2
 exact bodyPost_ret (v:=.tuple #[.int .u64 R,.int .u8 0]) (by simp[results,Tryz.results261,go_sem]) rfl ⟨rfl,uH B2⟩
theorem uf(D:Bool)(F:Option Addr)(G l M k R:Nat)(E t d:Int)(w:World)(U:0<l)(ht:-100000≤t∧t≤1024)(X:max (t-53) (-1074)=d)(hk:d+1074=k)(O:k≤2045)(hM:M≤9007199254740992)
  (Y:∀h,Below w.heap.size w h→Calls Tryz.prog 169 #[.agg #[.bool D,.slice F l G,.int .i64 E]] h fun e u=>e=.returned (.int .i64 t)∧Below h.heap.size h u)
  (Z:∀h,Below w.heap.size w h→Calls Tryz.prog 281 #[.agg #[.bool D,.slice F l G,.int .i64 E],.int .i64 d] h fun e u=>e=.returned (.int .u64 M)∧Below h.heap.size h u)
  (hR:R=M+k*4503599627370496) (g1:decide (d≤E)=false) (g2:((R:Int)==9218868437227405312)=true):
  Calls Tryz.prog 261 #[.agg #[.bool D,.slice F l G,.int .i64 E]] w fun e h=>e=.returned (.tuple #[.int .u64 R,.int .u8 5])∧Below w.heap.size w h:=by
 have Q:decide (0<l)=true:=decide_eq_true U
 have hz:((l:Int)==0)=false:=by simp;omega
 have hm:=fun W ts t'=>jv Tryz.prog W ts t' (t-53) (-1074)
 rw[X]at hm
 have KT:=ac Y;have KR:=ac Z
 have hg:decide ((1024:Int)<t)=false:=decide_eq_false (by omega)
 have w1:IntKind.i64.wrap (t-53)=t-53:=by simp only[IntKind.wrap_i64];omega
 have w2:IntKind.i64.wrap (d- -1074)=(k:Int):=by simp only[IntKind.wrap_i64];omega
 have w3:IntKind.u64.wrap (k:Int)=(k:Int):=by simp only[IntKind.wrap_u64];omega
 have H:=ac (show(M:Int)+(k:Int)*4503599627370496=(R:Int) by omega)
 clear Y Z X hR
 have J:=ac ((Below.refl w.heap.size w).alloc (Nat.le_refl _) (.cells #[.bool D,.slice F l G,.int .i64 E] 35))
 have X0:=ac (al.new w (.bool D) (.slice F l G) (.int .i64 E))
 go_enter Tryz.func261,Tryz.ntmps261
 go_wp2_with fail
 refine(uH KT _ (uH J)).mono ?_
 rintro e aa ⟨rfl,z⟩
 have I:=(uH X0).all z
 have K:=ac ((uH J).trans (z.mono (uH J).size))
 have X1:=ac I
 have y0:=I.c0;have y1:=I.c1;have y2:=I.c2
 clear z I KT J X0
 go_wp2_with fail
 refine(uH KR _ (uH K)).mono ?_
 rintro e ae ⟨rfl,A⟩
 have L:=(uH X1).all A
 have B2:=ac ((uH K).trans (A.mono (uH K).size))
 clear y0 y1 y2
 have y0:=L.c0;have y1:=L.c1;have y2:=L.c2
 clear A L KR K X1
 go_upto_region 8 with(fail)
 rw[uH H]
 clear hm w1 w2 w3 hk O hM H U Q hz hg ht
 go_wp2
 exact bodyPost_ret (v:=.tuple #[.int .u64 R,.int .u8 5]) (by simp[results,Tryz.results261,go_sem]) rfl ⟨rfl,uH B2⟩
theorem ug(D:Bool)(F:Option Addr)(G l M k R:Nat)(E t d:Int)(w:World)(U:0<l)(ht:-100000≤t∧t≤1024)(X:max (t-53) (-1074)=d)(hk:d+1074=k)(O:k≤2045)(hM:M≤9007199254740992)
  (Y:∀h,Below w.heap.size w h→Calls Tryz.prog 169 #[.agg #[.bool D,.slice F l G,.int .i64 E]] h fun e u=>e=.returned (.int .i64 t)∧Below h.heap.size h u)
  (Z:∀h,Below w.heap.size w h→Calls Tryz.prog 281 #[.agg #[.bool D,.slice F l G,.int .i64 E],.int .i64 d] h fun e u=>e=.returned (.int .u64 M)∧Below h.heap.size h u)
  (hR:R=M+k*4503599627370496) (g1:decide (d≤E)=false) (g2:((R:Int)==9218868437227405312)=false) (g3:decide ((R:Int)<4503599627370496)=true):
  Calls Tryz.prog 261 #[.agg #[.bool D,.slice F l G,.int .i64 E]] w fun e h=>e=.returned (.tuple #[.int .u64 R,.int .u8 3])∧Below w.heap.size w h:=by
 have Q:decide (0<l)=true:=decide_eq_true U
 have hz:((l:Int)==0)=false:=by simp;omega
 have hm:=fun W ts t'=>jv Tryz.prog W ts t' (t-53) (-1074)
 rw[X]at hm
 have KT:=ac Y;have KR:=ac Z
 have hg:decide ((1024:Int)<t)=false:=decide_eq_false (by omega)
 have w1:IntKind.i64.wrap (t-53)=t-53:=by simp only[IntKind.wrap_i64];omega
 have w2:IntKind.i64.wrap (d- -1074)=(k:Int):=by simp only[IntKind.wrap_i64];omega
 have w3:IntKind.u64.wrap (k:Int)=(k:Int):=by simp only[IntKind.wrap_u64];omega
 have H:=ac (show(M:Int)+(k:Int)*4503599627370496=(R:Int) by omega)
 clear Y Z X hR
 have J:=ac ((Below.refl w.heap.size w).alloc (Nat.le_refl _) (.cells #[.bool D,.slice F l G,.int .i64 E] 35))
 have X0:=ac (al.new w (.bool D) (.slice F l G) (.int .i64 E))
 go_enter Tryz.func261,Tryz.ntmps261
 go_wp2_with fail
 refine(uH KT _ (uH J)).mono ?_
 rintro e aa ⟨rfl,z⟩
 have I:=(uH X0).all z
 have K:=ac ((uH J).trans (z.mono (uH J).size))
 have X1:=ac I
 have y0:=I.c0;have y1:=I.c1;have y2:=I.c2
 clear z I KT J X0
 go_wp2_with fail
 refine(uH KR _ (uH K)).mono ?_
 rintro e ae ⟨rfl,A⟩
 have L:=(uH X1).all A
 have B2:=ac ((uH K).trans (A.mono (uH K).size))
 clear y0 y1 y2
 have y0:=L.c0;have y1:=L.c1;have y2:=L.c2
 clear A L KR K X1
 go_upto_region 8 with(fail)
 rw[uH H]
 clear hm w1 w2 w3 hk O hM H U Q hz hg ht
 go_wp2
 exact bodyPost_ret (v:=.tuple #[.int .u64 R,.int .u8 3]) (by simp[results,Tryz.results261,go_sem]) rfl ⟨rfl,uH B2⟩
theorem uh(D:Bool)(F:Option Addr)(G l M k R:Nat)(E t d:Int)(w:World)(U:0<l)(ht:-100000≤t∧t≤1024)(X:max (t-53) (-1074)=d)(hk:d+1074=k)(O:k≤2045)(hM:M≤9007199254740992)
  (Y:∀h,Below w.heap.size w h→Calls Tryz.prog 169 #[.agg #[.bool D,.slice F l G,.int .i64 E]] h fun e u=>e=.returned (.int .i64 t)∧Below h.heap.size h u)
  (Z:∀h,Below w.heap.size w h→Calls Tryz.prog 281 #[.agg #[.bool D,.slice F l G,.int .i64 E],.int .i64 d] h fun e u=>e=.returned (.int .u64 M)∧Below h.heap.size h u)
  (hR:R=M+k*4503599627370496) (g1:decide (d≤E)=false) (g2:((R:Int)==9218868437227405312)=false) (g3:decide ((R:Int)<4503599627370496)=false):
  Calls Tryz.prog 261 #[.agg #[.bool D,.slice F l G,.int .i64 E]] w fun e h=>e=.returned (.tuple #[.int .u64 R,.int .u8 1])∧Below w.heap.size w h:=by
 have Q:decide (0<l)=true:=decide_eq_true U
 have hz:((l:Int)==0)=false:=by simp;omega
 have hm:=fun W ts t'=>jv Tryz.prog W ts t' (t-53) (-1074)
 rw[X]at hm
 have KT:=ac Y;have KR:=ac Z
 have hg:decide ((1024:Int)<t)=false:=decide_eq_false (by omega)
 have w1:IntKind.i64.wrap (t-53)=t-53:=by simp only[IntKind.wrap_i64];omega
 have w2:IntKind.i64.wrap (d- -1074)=(k:Int):=by simp only[IntKind.wrap_i64];omega
 have w3:IntKind.u64.wrap (k:Int)=(k:Int):=by simp only[IntKind.wrap_u64];omega
 have H:=ac (show(M:Int)+(k:Int)*4503599627370496=(R:Int) by omega)
 clear Y Z X hR
 have J:=ac ((Below.refl w.heap.size w).alloc (Nat.le_refl _) (.cells #[.bool D,.slice F l G,.int .i64 E] 35))
 have X0:=ac (al.new w (.bool D) (.slice F l G) (.int .i64 E))
 go_enter Tryz.func261,Tryz.ntmps261
 go_wp2_with fail
 refine(uH KT _ (uH J)).mono ?_
 rintro e aa ⟨rfl,z⟩
 have I:=(uH X0).all z
 have K:=ac ((uH J).trans (z.mono (uH J).size))
 have X1:=ac I
 have y0:=I.c0;have y1:=I.c1;have y2:=I.c2
 clear z I KT J X0
 go_wp2_with fail
 refine(uH KR _ (uH K)).mono ?_
 rintro e ae ⟨rfl,A⟩
 have L:=(uH X1).all A
 have B2:=ac ((uH K).trans (A.mono (uH K).size))
 clear y0 y1 y2
 have y0:=L.c0;have y1:=L.c1;have y2:=L.c2
 clear A L KR K X1
 go_upto_region 8 with(fail)
 rw[uH H]
 clear hm w1 w2 w3 hk O hM H U Q hz hg ht
 go_wp2
 exact bodyPost_ret (v:=.tuple #[.int .u64 R,.int .u8 1]) (by simp[results,Tryz.results261,go_sem]) rfl ⟨rfl,uH B2⟩
theorem ui(u:Bool)(z:Option Addr)(A:Nat)(E t:Int)(w:World)
  (H:∀h,Below w.heap.size w h→Calls Tryz.prog 169 #[.agg #[.bool u,.slice z 0 A,.int .i64 E]] h fun e G=>e=.returned (.int .i64 t)∧Below h.heap.size h G):
  Calls Tryz.prog 261 #[.agg #[.bool u,.slice z 0 A,.int .i64 E]] w fun e h=>e=.returned (.tuple #[.int .u64 0,.int .u8 0])∧Below w.heap.size w h:=by
 have I:=ac H
 clear H
 have D:=ac ((Below.refl w.heap.size w).alloc (Nat.le_refl _) (.cells #[.bool u,.slice z 0 A,.int .i64 E] 35))
 have J:=ac (al.new w (.bool u) (.slice z 0 A) (.int .i64 E))
 go_enter Tryz.func261,Tryz.ntmps261
 go_wp2_with fail
 refine(uH I _ (uH D)).mono ?_
 rintro e L ⟨rfl,d⟩
 have F:=(uH J).all d
 have K:=ac ((uH D).trans (d.mono (uH D).size))
 have O:=F.c0;have Q:=F.c1;have U:=F.c2
 clear d F I D J
 go_wp2
 exact bodyPost_ret (v:=.tuple #[.int .u64 0,.int .u8 0]) (by simp[results,Tryz.results261,go_sem]) rfl ⟨rfl,uH K⟩
theorem uj(u:Bool)(z:Option Addr)(A l:Nat)(E t:Int)(w:World)(L:0<l)(H:1024<t)
  (I:∀h,Below w.heap.size w h→Calls Tryz.prog 169 #[.agg #[.bool u,.slice z l A,.int .i64 E]] h fun e G=>e=.returned (.int .i64 t)∧Below h.heap.size h G):
  Calls Tryz.prog 261 #[.agg #[.bool u,.slice z l A,.int .i64 E]] w fun e h=>e=.returned (.tuple #[.int .u64 9218868437227405312,.int .u8 5])∧Below w.heap.size w h:=by
 have O:decide (0<l)=true:=decide_eq_true L
 have X:((l:Int)==0)=false:=by simp;omega
 have Y:decide ((1024:Int)<t)=true:=decide_eq_true H
 have J:=ac I
 clear I H
 have D:=ac ((Below.refl w.heap.size w).alloc (Nat.le_refl _) (.cells #[.bool u,.slice z l A,.int .i64 E] 35))
 have K:=ac (al.new w (.bool u) (.slice z l A) (.int .i64 E))
 go_enter Tryz.func261,Tryz.ntmps261
 go_wp2_with fail
 refine(uH J _ (uH D)).mono ?_
 rintro e U ⟨rfl,d⟩
 have F:=(uH K).all d
 have Q:=ac ((uH D).trans (d.mono (uH D).size))
 have Z:=F.c0;have y1:=F.c1;have y2:=F.c2
 clear d F J D K
 go_wp2
 exact bodyPost_ret (v:=.tuple #[.int .u64 9218868437227405312,.int .u8 5]) (by simp[results,Tryz.results261,go_sem]) rfl ⟨rfl,uH Q⟩
theorem JH{n:Bool}{L:List Nat}(d:aw n L=true)(u:L≠ []):aj L≠0:=fun h=>u ((aT L (ay d).2.1).1 h)
theorem qi(u:Bool)(z:Option Addr)(D:Nat)(A:List Nat)(E:Int)(w:World)(O:ag w z D A)(hr:kQ u A E=true):
  Calls Tryz.prog 261 #[.agg #[.bool u,.slice z A.length D,.int .i64 E]] w fun e d=>e=.returned (.tuple #[.int .u64 (cg (aj A) E:Nat),.int .u8 (bM (aj A) E)])∧Below w.heap.size w d:=by
 obtain⟨d1,d2,d3,d4,d5⟩:=cd hr
 have G:∀d,Below w.heap.size w d→Calls Tryz.prog 169 #[.agg #[.bool u,.slice z A.length D,.int .i64 E]] d fun e I=>e=.returned (.int .i64 (IntKind.i64.wrap (dU A+E)))∧Below d.heap.size d I:=fun d hb=>lf u z D A E d (O.below hb) (by omega)
 rw[i8 O.2.1 d1]at G
 by_cases Q:A= []
 ·subst Q
  have e1:cg (aj []) E=0:=by simp[cg,aj]
  have F:bM (aj []) E=0:=by simp[bM,aj]
  rw[e1,F]
  exact ui u z D E _ w G
 ·have H:=JH d1 Q
  have K:0<A.length:=List.length_pos_iff.2 Q
  have ae:bl (aj A)≤16384:=by
   have h1:=bK (aj A) H
   have h2:=ky A O.2.1 512 d2
   have:=cK (Nat.lt_of_le_of_lt h1.2.1 h2)
   omega
  have hw:IntKind.i64.wrap ((bl (aj A):Int)+E)=(bl (aj A):Int)+E:=by simp only[IntKind.wrap_i64];omega
  rw[hw]at G
  by_cases U:1024<(bl (aj A):Int)+E
  ·have e1:cg (aj A) E=9218868437227405312:=by unfold cg;rw[if_neg H,if_pos U]
   have F:bM (aj A) E=5:=by unfold bM;rw[if_neg H,if_pos U]
   rw[e1,F]
   exact uj u z D A.length E _ w K U G
  ·have X:=dl (aj A) E H (by omega)
   obtain⟨l1,l2,l3⟩:=cD (aj A) E
   have Y:=(cS (aj A) E H).1
   have hN:=LP (aj A) E H
   have aa:=(bK (aj A) H).1
   have Z:∀d,Below w.heap.size w d→Calls Tryz.prog 281 #[.agg #[.bool u,.slice z A.length D,.int .i64 E],.int .i64 (aE (aj A) E)] d fun e I=>e=.returned (.int .u64 (d8 (aj A) E:Nat))∧Below d.heap.size d I:=fun d hb=>
    ud u z D A E _ d (O.below hb) hr Q (by omega) (by omega) hN
   have h:max ((bl (aj A):Int)+E-53) (-1074)=aE (aj A) E:=rfl
   have hk:aE (aj A) E+1074=((aE (aj A) E+1074).toNat:Int):=by omega
   have F:bM (aj A) E=if aE (aj A) E≤E then 0 else if cg (aj A) E=9218868437227405312 then 5 else if cg (aj A) E<4503599627370496 then 3 else 1:=by unfold bM;rw[if_neg H,if_neg U]
   by_cases J:aE (aj A) E≤E
   ·rw[F,if_pos J]
    exact ue u z D A.length _ _ _ E _ _ w K (by omega) h hk (by omega) Y G Z X (decide_eq_true J)
   ·rw[if_neg J]at F
    by_cases g2:cg (aj A) E=9218868437227405312
    ·rw[F,if_pos g2]
     exact uf u z D A.length _ _ _ E _ _ w K (by omega) h hk (by omega) Y G Z X (decide_eq_false J) (by simp;omega)
    ·rw[if_neg g2]at F
     have L:((cg (aj A) E:Int)==9218868437227405312)=false:=by simp;omega
     by_cases g3:cg (aj A) E<4503599627370496
     ·rw[F,if_pos g3]
      exact ug u z D A.length _ _ _ E _ _ w K (by omega) h hk (by omega) Y G Z X (decide_eq_false J) L (decide_eq_true (by omega))
     ·rw[F,if_neg g3]
      exact uh u z D A.length _ _ _ E _ _ w K (by omega) h hk (by omega) Y G Z X (decide_eq_false J) L (decide_eq_false (by omega))
def gJ(neg:Bool)(r:Nat):Nat:=if neg=true then r+9223372036854775808 else r
theorem fg(r:Nat):gJ true r=r+9223372036854775808:=if_pos rfl
theorem bQ(r:Nat):gJ false r=r:=if_neg Bool.false_ne_true
theorem Ct(r:Nat)(h:r<9223372036854775808):fN r=gJ true r:=by rw[fg];unfold fN;exact if_neg (by omega)
theorem uk(D:Bool)(L:Option Addr)(O:Nat)(A:List Nat)(E:Int)(w:World)(hA:ag w L O A)(hr:kQ D A E=true)(hT:cr w):
  Calls Tryz.prog 229 #[.agg #[.bool D,.slice L A.length O,.int .i64 E]] w fun e H=>e=.returned (.tuple #[.int .u64 (gJ D (cg (aj A) E):Nat),.int .u8 (bM (aj A) E),.int .i64 0])∧Below w.heap.size w H:=by
 have la:=(cd hr).2.1
 have U:=ac (fun H h t=>iU D L O A E H h (by omega) t)
 have he:oS D A E=0:=by unfold oS;rw[hr];rfl
 rw[he]at U
 have CR:=ac (fun H h=>qi D L O A E H h hr)
 have aa:=dR (aj A) E
 have hn:fN (cg (aj A) E)=gJ true (cg (aj A) E):=Ct _ (by omega)
 have CM:=ac (fun H=>fU (cg (aj A) E) H (by omega))
 rw[hn]at CM
 clear he hr la
 have G:=ac ((Below.refl w.heap.size w).alloc (Nat.le_refl _) (.cells #[.bool D,.slice L A.length O,.int .i64 E] 35))
 have X0:=ac (al.new w (.bool D) (.slice L A.length O) (.int .i64 E))
 have Q:=ac (hA.below (uH G));have HT:=ac (hT.all (uH G))
 have I:gJ false (cg (aj A) E)=cg (aj A) E:=bQ _
 clear hA hT aa hn
 generalize bM (aj A) E=fl at*
 generalize cg (aj A) E=R at*
 cases D
 ·rw[I]
  clear CM I
  go_enter Tryz.func229,Tryz.ntmps229
  go_wp2_with fail
  refine(uH U _ (uH Q) (uH HT)).mono ?_
  rintro e w1 ⟨rfl,d⟩
  have J:=ac ((uH G).trans (d.mono (uH G).size))
  have z:=(uH X0).all d
  have K:=ac ((uH Q).below d)
  have X:=z.c0;have Y:=z.c1;have Z:=z.c2
  have X1:=ac z
  clear d G U Q HT X0 z
  go_wp2_with fail
  refine(uH CR _ (uH K)).mono ?_
  rintro e w2 ⟨rfl,u⟩
  have B2:=ac ((uH J).trans (u.mono (uH J).size))
  have F:=(uH X1).all u
  clear X Y Z
  have X:=F.c0;have Y:=F.c1;have Z:=F.c2
  clear u F CR J X1
  go_wp2
  exact bodyPost_ret (v:=.tuple #[.int .u64 R,.int .u8 fl,.int .i64 0]) (by simp[results,Tryz.results229,go_sem]) rfl ⟨rfl,uH B2⟩
 ·clear I
  generalize gJ true R=R' at*
  go_enter Tryz.func229,Tryz.ntmps229
  go_wp2_with fail
  refine(uH U _ (uH Q) (uH HT)).mono ?_
  rintro e w1 ⟨rfl,d⟩
  have J:=ac ((uH G).trans (d.mono (uH G).size))
  have z:=(uH X0).all d
  have K:=ac ((uH Q).below d)
  have X:=z.c0;have Y:=z.c1;have Z:=z.c2
  have X1:=ac z
  clear d G U Q HT X0 z
  go_wp2_with fail
  refine(uH CR _ (uH K)).mono ?_
  rintro e w2 ⟨rfl,u⟩
  have B2:=ac ((uH J).trans (u.mono (uH J).size))
  have F:=(uH X1).all u
  clear X Y Z
  have X:=F.c0;have Y:=F.c1;have Z:=F.c2
  clear u F CR J X1
  go_wp2_with(go_at_call 162;refine(uH CM _).mono ?_;rintro e w3 ⟨rfl,rfl⟩)
  exact bodyPost_ret (v:=.tuple #[.int .u64 R',.int .u8 fl,.int .i64 0]) (by simp[results,Tryz.results229,go_sem]) rfl ⟨rfl,uH B2⟩
theorem jw{w:World}{v:Value}{m e:Int}(h:aC w v m e)(z:m.natAbs<du)(A:qh m e=true)(D:cr w):
  Calls Tryz.prog 229 #[v] w fun r F=>r=.returned (.tuple #[.int .u64 (gJ (decide (m<0)) (cg m.natAbs e):Nat),.int .u8 (bM m.natAbs e),.int .i64 0])∧Below w.heap.size w F:=by
 obtain⟨n,a,c,L,rfl,H,O,I,Q,J⟩:=h.right z
 have d:n=decide (m<0):=by
  obtain⟨U,X,Y,Z,u,_,_,K,_⟩:=h.parts
  simp only[Value.agg.injEq,Array.mk.injEq,List.cons.injEq,Value.bool.injEq]at u
  rw[u.1];exact K
 have G:aj L=m.natAbs:=by rw[←I,aQ]
 have:=uk n a c L e w H (J.trans A) D
 rw[G,d]at this
 rw[d]
 exact this
theorem JI(b:Nat):(fM b).natAbs=fA b:=by unfold fM sg;split<;>simp
theorem JJ(b:Nat)(d:ai b=true):fP b<2047:=by
 have:=qE b
 unfold ai at d
 simp at d
 omega
theorem Cu(b:Nat)(F:ai b=true):cg (fA b) (fE b)=b%9223372036854775808∧aE (fA b) (fE b)=fE b∧(bl (fA b):Int)+fE b≤1024:=by
 have J:=JJ b F
 have G:b%9223372036854775808=fF b+fP b*4503599627370496:=by unfold fF fP;omega
 have H:=tI b
 rw[G]
 by_cases h:fP b=0
 ·have z:fA b=fF b:=by unfold fA;rw[if_pos h]
  have A:fE b= -1074:=by unfold fE;rw[if_pos h]
  rw[z,A,h]
  generalize fF b=f at*
  by_cases D:f=0
  ·subst D
   exact⟨by simp[cg],by decide,by decide⟩
  ·obtain⟨K,L,O⟩:=bK f D
   have d:bl f≤52:=by
    have I:(2:Nat)^(bl f-1)<2^52:=by rw[IL];omega
    have:=cK I
    omega
   have u:aE f (-1074)= -1074:=by unfold aE;omega
   refine⟨?_,u,by omega⟩
   rw[dl f _ D (by omega)]
   unfold d8
   rw[u]
   have:=kW f 0
   simp at this
   simp[this]
 ·have z:fA b=fF b+4503599627370496:=by unfold fA;rw[if_neg h]
  have A:fE b=(fP b:Int)-1075:=by unfold fE;rw[if_neg h]
  rw[z,A]
  generalize fF b=f at*
  generalize fP b=p at*
  have d:bl (f+4503599627370496)=53:=ni (by decide) (by show 2^52≤_;rw[IL];omega) (by rw[BL];omega)
  have u:aE (f+4503599627370496) ((p:Int)-1075)=(p:Int)-1075:=by unfold aE;rw[d];omega
  refine⟨?_,u,by rw[d];omega⟩
  rw[dl _ _ (by omega) (by rw[d];omega)]
  unfold d8
  rw[u]
  have:=kW (f+4503599627370496) 0
  simp at this
  rw[show(p:Int)-1075-((p:Int)-1075)=0 by omega,this]
  omega
theorem Cv(z:Int)(h:z≠0):z.natAbs=(oM z).natAbs*2^tz z.natAbs:=by
 have u:=(eR z h).1
 have d:=congrArg Int.natAbs u
 rw[Int.natAbs_mul,Int.natAbs_pow]at d
 exact d
theorem jT(z:Int):decide (oM z<0)=decide (z<0):=by
 have h:=yp z
 unfold gt at h
 by_cases u:oM z<0
 ·rw[if_pos u]at h
  by_cases d:z<0
  ·rw[decide_eq_true u,decide_eq_true d]
  ·rw[if_neg d]at h
   split at h<;>omega
 ·rw[if_neg u]at h
  by_cases d:z<0
  ·rw[if_pos d]at h
   split at h<;>omega
  ·rw[decide_eq_false u,decide_eq_false d]
theorem jU(z e:Int):cg (oM z).natAbs (oE z e)=cg z.natAbs e∧(z≠0→aE (oM z).natAbs (oE z e)=aE z.natAbs e∧(bl (oM z).natAbs:Int)+oE z e=(bl z.natAbs:Int)+e):=by
 by_cases h:z=0
 ·subst h
  refine⟨by rw[aX];simp[cg],fun h=>absurd rfl h⟩
 ·have A:=Cv z h
  have d:(oM z).natAbs≠0:=by have:=(fH z h).1;omega
  rw[cw z e h]
  generalize tz z.natAbs=k at*
  rw[A,mA]
  refine⟨rfl,fun _=>?_⟩
  have u:=kV (oM z).natAbs k d
  refine⟨?_,by rw[u];omega⟩
  unfold aE
  rw[u]
  congr 1
  omega
end Go.Proofs.YtcbcmlaogehimaaGreatDoor
namespace Go.Proofs.YtcbcmlaogehimaaGreatDoor
theorem jx(n:Bool)(s:Nat)(h:s<9223372036854775808):fS (gJ n s)=n:=by
 unfold fS
 cases n
 ·rw[bQ];exact decide_eq_false (by omega)
 ·rw[fg];exact decide_eq_true (by omega)
theorem JK(n:Bool)(s:Nat)(h:s<9223372036854775808):fP (gJ n s)=s/4503599627370496:=by
 unfold fP
 cases n
 ·rw[bQ];omega
 ·rw[fg];omega
theorem JL(n:Bool)(s:Nat)(_h:s<9223372036854775808):fF (gJ n s)=s%4503599627370496:=by
 unfold fF
 cases n
 ·rw[bQ]
 ·rw[fg];omega
theorem JM(n:Bool)(s:Nat)(h:s<9218868437227405312):∃j:Nat,fE (gJ n s)= -1074+(j:Int)∧fM (gJ n s)*2^j=sg n (rv s):=by
 have u:=JK n s (by omega)
 have z:=JL n s (by omega)
 have A:=jx n s (by omega)
 unfold fM fE fA rv
 rw[u,z,A]
 by_cases d:s<4503599627370496
 ·rw[if_pos (by omega),if_pos (by omega),if_pos d]
  refine⟨0,by simp,?_⟩
  rw[Nat.mod_eq_of_lt d]
  simp
 ·rw[if_neg (by omega),if_neg (by omega),if_neg d]
  refine⟨s/4503599627370496-1,by omega,?_⟩
  rw[Nat.add_comm 4503599627370496]
  generalize s%4503599627370496+4503599627370496=m
  generalize s/4503599627370496-1=j
  unfold sg
  cases n
  ·simp
  ·simp[Int.neg_mul]
open Go.RowKit
def pv(n:Bool)(r:Nat):Int:=if n=true then-(rv r:Int)else(rv r:Int)
theorem Aj(n:Bool)(r:Nat)(h:r<9223372036854775808):(gJ n r/9223372036854775808%2==1)=n∧gJ n r%9223372036854775808=r:=by
 cases n
 ·rw[bQ];exact⟨by simp;omega,by omega⟩
 ·rw[fg];exact⟨by simp;omega,by omega⟩
theorem IW{r s:Nat}(h:r<s):rv r<rv s:=Nat.lt_of_lt_of_le (rx r) (iS h)
def Ak(z l:Int):Int:=pv (decide (z<0)) (cg z.natAbs l)
theorem ul{z y l:Int}(h:z≤y):Ak z l≤Ak y l:=by
 unfold Ak pv
 by_cases d:z<0
 ·rw[decide_eq_true d,if_pos rfl]
  by_cases u:y<0
  ·rw[decide_eq_true u,if_pos rfl]
   have:=iS (kX l (show y.natAbs≤z.natAbs by omega))
   omega
  ·rw[decide_eq_false u,if_neg (by decide)]
   omega
 ·rw[decide_eq_false d,decide_eq_false (show¬y<0 by omega),if_neg (by decide),if_neg (by decide)]
  have:=iS (kX l (show z.natAbs≤y.natAbs by omega))
  omega
theorem iE(z lo:Int)(k:Nat)(h:z≠0→lo+k≤oE z lo):up (oM z) (oE z lo) (lo+k)*2^k=z:=by
 by_cases d:z=0
 ·subst d;rw[aX,ei];simp
 ·have u:=h d
  conv=>rhs;rw[←ju z lo d]
  unfold up
  rw[Int.mul_assoc,←Int.pow_add]
  congr 2
  omega
theorem mI{lo:Int}{W:Nat}{z1 z2:Int}(D:fv lo W z1)(J:fv lo W z2)(K:¬(z1=0∧z2=0)):
  ∃k:Nat,bP (oM z1) (oE z1 lo) (oM z2) (oE z2 lo)=lo+k∧up (oM z1) (oE z1 lo) (lo+k)*2^k=z1∧up (oM z2) (oE z2 lo) (lo+k)*2^k=z2∧oE z1 lo-(lo+k)≤16384∧oE z2 lo-(lo+k)≤16384:=by
 have Q:=D.2.1
 have U:=D.2.2.1
 have X:=D.2.2.2
 have G:∀z,fv lo W z→(z=0∧oM z=0∧oE z lo=0)∨(z≠0∧oM z≠0∧oE z lo=lo+(tz z.natAbs:Int)∧tz z.natAbs<W):=fun z L=>by
  by_cases e:z=0
  ·left;subst e;exact⟨rfl,aX,bf _⟩
  ·right;exact⟨e,(fH z e).1,cw z lo e,L.tzs e⟩
 rcases G z1 D with⟨H,F,I⟩|⟨H,F,I,Y⟩
 ·rcases G z2 J with⟨d,u,A⟩|⟨d,u,A,O⟩
  ·exact absurd ⟨H,d⟩ K
  ·refine⟨tz z2.natAbs,?_,iE z1 lo _ (fun h=>absurd H h),iE z2 lo _ (fun _=>by omega),by omega,by omega⟩
   unfold bP;rw[if_pos F];exact A
 ·rcases G z2 J with⟨d,u,A⟩|⟨d,u,A,O⟩
  ·refine⟨tz z1.natAbs,?_,iE z1 lo _ (fun _=>by omega),iE z2 lo _ (fun h=>absurd d h),by omega,by omega⟩
   unfold bP;rw[if_neg F,if_pos u];exact I
  ·refine⟨min (tz z1.natAbs) (tz z2.natAbs),?_,iE z1 lo _ (fun _=>by omega),iE z2 lo _ (fun _=>by omega),by omega,by omega⟩
   rw[iX _ _ _ _ F u,I,A];omega
theorem jV{u z:Int}{k:Nat}(h:u*2^k=z):u.natAbs≤z.natAbs:=by
 rw[←h,Int.natAbs_mul,Int.natAbs_pow]
 exact Nat.le_mul_of_pos_right _ (Nat.pow_pos (by decide))
theorem fv.neg{lo:Int}{W:Nat}{z:Int}(h:fv lo W z):fv lo W (-z):=⟨by rw[Int.natAbs_neg];exact h.1,h.2⟩
theorem o9{m e:Int}(h:qh m e=true):-16384≤e∧e≤16384:=by
 unfold qh at h
 by_cases d:m=0
 ·rw[if_pos d]at h;have:=of_decide_eq_true h;omega
 ·rw[if_neg d,Bool.and_eq_true]at h;exact of_decide_eq_true h.2
theorem LR{w:World}{v u:Value}{lo:Int}{W:Nat}{z1 z2:Int}(hv:aC w v (oM z1) (oE z1 lo))(hu:aC w u (oM z2) (oE z2 lo))(D:fv lo W z1)(G:fv lo W z2):
  Calls Tryz.prog 58 #[v,u] w fun r L=>∃q,r=.returned q∧aC L q (oM (z1-z2)) (oE (z1-z2) lo)∧Below w.heap.size w L:=by
 obtain⟨Q,U,X,A,rfl,Y,a2,d,a4,a5⟩:=hv.right D.right.2
 obtain⟨nb,bo,cb,B,rfl,b1,b2,h,b4,b5⟩:=hu.right G.right.2
 have x1:=o9 D.right.1
 have x2:=o9 G.right.1
 have H:=JE z2
 have O:=G.neg
 have t1:=D.tops
 have t2:=O.tops
 by_cases h0:z1=0∧z2=0
 ·obtain⟨rfl,rfl⟩:=h0
  have hz:∀W:World,W=W:=fun _=>rfl
  rw[aX]at d h
  rw[bf]at*
  have eZ:cV 0 0 (-0) 0=0:=by decide
  have eU:eh 0 0 (bP 0 0 (-0) 0)=0:=dW _ _ _ (by rw[ei];exact iV) (by decide)
  have I:eh (-0) 0 (bP 0 0 (-0) 0)=0:=dW _ _ _ (by rw[Int.neg_zero,ei];exact iV) (by decide)
  have:=oY Q nb U bo X cb A B 0 0 w Y b1 a2 b2 (by omega) (by omega) (by rw[d,h];exact eU) (by rw[d,h];exact I)
  rw[d,h,eZ,aX,bf]at this
  simpa[aX,bf]using this
 ·obtain⟨k,z,e2,F,e4,e5⟩:=mI D O (by omega)
  have J:oE (-z2) lo=oE z2 lo:=H.2 lo
  rw[H.1,J]at z
  have aa:=F
  rw[H.1,J]at F
  rw[J]at e5
  have g1:eh (oM z1) (oE z1 lo) (lo+k)=0:=dW _ _ _ (Nat.lt_of_le_of_lt (jV e2) t1) e4
  have g2:eh (-oM z2) (oE z2 lo) (lo+k)=0:=dW _ _ _ (Nat.lt_of_le_of_lt (jV F) t2) e5
  have:=oY Q nb U bo X cb A B _ _ w Y b1 a2 b2 x1 x2 (by rw[d,h,z];exact g1) (by rw[d,h,z];exact g2)
  rw[d,h,z]at this
  have hZ:cV (oM z1) (oE z1 lo) (-oM z2) (oE z2 lo)*2^k=z1-z2:=by
   unfold cV
   rw[z,Int.add_mul,e2,F,Int.sub_eq_add_neg]
  generalize cV (oM z1) (oE z1 lo) (-oM z2) (oE z2 lo)=Z at*
  have K:=gu Z k lo
  rw[hZ]at K
  rw[K.1,K.2]
  exact this
theorem wJ(u v:Int)(k:Nat):bD (u*2^k) (v*2^k)=bD u v:=by
 rw[o4,o4,←Int.sub_mul,iY]
theorem Cw{w:World}{v u:Value}{lo:Int}{W:Nat}{z1 z2:Int}(D:aC w v (oM z1) (oE z1 lo))(F:aC w u (oM z2) (oE z2 lo))(d:fv lo W z1)(h:fv lo W z2):
  Calls Tryz.prog 33 #[v,u] w fun r G=>r=.returned (.int .i64 (bD z1 z2))∧Below w.heap.size w G:=by
 obtain⟨I,J,K,A,rfl,L,a2,O,a4,Q⟩:=D.right d.right.2
 obtain⟨U,X,Y,B,rfl,Z,b2,b3,b4,b5⟩:=F.right h.right.2
 have:=rH I U J X K Y A B _ _ w L Z (Q.trans d.right.1) (b5.trans h.right.1)
 rw[O,b3]at this
 have H:lm (oM z1) (oE z1 lo) (oM z2) (oE z2 lo)=bD z1 z2:=by
  by_cases z:z1=0∧z2=0
  ·obtain⟨rfl,rfl⟩:=z
   rw[aX,bf];rfl
  ·obtain⟨k,e1,e2,e3,_,_⟩:=mI d h z
   unfold lm
   rw[e1,←wJ _ _ k,e2,e3]
 rwa[H]at this
theorem LS(z:Int):oM (oM z)=oM z:=by
 by_cases h:z=0
 ·subst h;rw[aX,aX]
 ·have d:=fH z h
  have:=(eR (oM z) d.1).unique (m':=oM z) (k':=0) ⟨by simp,d.2⟩
  exact this.1
theorem LT(z e:Int)(h:z≠0):oE (oM z) e=e:=by
 have d:=fH z h
 have:=(eR (oM z) d.1).unique (m':=oM z) (k':=0) ⟨by simp,d.2⟩
 rw[cw _ _ d.1,this.2];simp
end Go.Proofs.YtcbcmlaogehimaaGreatDoor
