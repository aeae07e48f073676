/- Part 13 of the texts. -/
import Derived.Test.YtcbcmlaogehimaaGreatDoorPartr12
set_option maxHeartbeats 4000000
namespace Go.Proofs.YtcbcmlaogehimaaGreatDoor
open Go.RowKit
theorem Kf(v:Nat)(E:Int)(h:v≠0):pN v (E-aD v E)<1152921504606846976:=by
 obtain⟨F,G,H⟩:=cu v E
 obtain⟨I,J,z⟩:=bF v h
 generalize aD v E=l at*
 have A:(2:Nat)^54<1152921504606846976:=by decide
 unfold pN
 split
 ·obtain⟨k,u⟩:=Int.eq_ofNat_of_zero_le (show 0≤E-l+1 by omega)
  rw[u,Int.toNat_natCast]
  have d:v*2^k<2^bl v*2^k:=Nat.mul_lt_mul_of_pos_right z (Nat.two_pow_pos _)
  rw[←Nat.pow_add]at d
  have D:(2:Nat)^(bl v+k)≤2^54:=gP (by omega)
  omega
 ·obtain⟨k,u⟩:=Int.eq_ofNat_of_zero_le (show 0≤-(E-l+1) by omega)
  rw[u,Int.toNat_natCast]
  have d:v<2^54*2^k:=by
   rw[←Nat.pow_add]
   exact Nat.lt_of_lt_of_le z (gP (by omega))
  have D:v/2^k<2^54:=Nat.div_lt_of_lt_mul (by rw[Nat.mul_comm];exact d)
  omega
theorem ji(P:Program)(w:World)(d:Array TypeId)(t:TypeId)(x y:Int):(Builtin.max_ d t #[.int .i64 x,.int .i64 y]).run P w=.ok (.int .i64 (max x y)) w:=by
 rw[run_max_int2]
 congr 2
 split<;>omega
theorem sU(D:Bool)(F:Option Addr)(G l M k R:Nat)(E t d:Int)(w:World)(Q:0<l)(ht:-100000≤t∧t≤1024)(U:max (t-53) (-1074)=d)(hk:d+1074=k)(N:k≤2045)(hM:M≤9007199254740992)
  (X:∀h,Below w.heap.size w h→Calls Tryz.prog 169 #[.agg #[.bool D,.slice F l G,.int .i64 E]] h fun e u=>e=.returned (.int .i64 t)∧Below h.heap.size h u)
  (Y:∀h,Below w.heap.size w h→Calls Tryz.prog 281 #[.agg #[.bool D,.slice F l G,.int .i64 E],.int .i64 d] h fun e u=>e=.returned (.int .u64 M)∧Below h.heap.size h u)
  (hR:R=M+k*4503599627370496) (g1:decide (d≤E)=true):
  Calls Tryz.prog 261 #[.agg #[.bool D,.slice F l G,.int .i64 E]] w fun e h=>e=.returned (.tuple #[.int .u64 R,.int .u8 0])∧Below w.heap.size w h:=by
 have O:decide (0<l)=true:=decide_eq_true Q
 have hz:((l:Int)==0)=false:=by simp;omega
 have Z:=fun W ts t'=>ji Tryz.prog W ts t' (t-53) (-1074)
 rw[U]at Z
 have KT:=ac X;have KR:=ac Y
 have hg:decide ((1024:Int)<t)=false:=decide_eq_false (by omega)
 have w1:IntKind.i64.wrap (t-53)=t-53:=by simp only[IntKind.wrap_i64];omega
 have w2:IntKind.i64.wrap (d- -1074)=(k:Int):=by simp only[IntKind.wrap_i64];omega
 have w3:IntKind.u64.wrap (k:Int)=(k:Int):=by simp only[IntKind.wrap_u64];omega
 have H:=ac (show(M:Int)+(k:Int)*4503599627370496=(R:Int) by omega)
 clear X Y U hR
 have J:=ac ((Below.refl w.heap.size w).alloc (Nat.le_refl _) (.cells #[.bool D,.slice F l G,.int .i64 E] 35))
 have X0:=ac (ak.new w (.bool D) (.slice F l G) (.int .i64 E))
 go_enter Tryz.func261,Tryz.ntmps261
 go_wp2_with fail
 refine(uH KT _ (uH J)).mono ?_
 rintro e aa ⟨rfl,z⟩
 have I:=(uH X0).all z
 have K:=ac ((uH J).trans (z.mono (uH J).size))
 have X1:=ac I
 have y0:=I.c0;have y1:=I.c1;have y2:=I.c2
 clear z I KT J X0
 go_wp2_with fail
 refine(uH KR _ (uH K)).mono ?_
 rintro e ae ⟨rfl,A⟩
 have L:=(uH X1).all A
 have B2:=ac ((uH K).trans (A.mono (uH K).size))
 clear y0 y1 y2
 have y0:=L.c0;have y1:=L.c1;have y2:=L.c2
 clear A L KR K X1
 go_upto_region 8 with(fail)
 rw[uH H]
 clear Z w1 w2 w3 hk N hM H Q O hz hg ht
 go_wp2
 exact bodyPost_ret (v:=.tuple #[.int .u64 R,.int .u8 0]) (by simp[results,Tryz.results261,go_sem]) rfl ⟨rfl,uH B2⟩
theorem sX(D:Bool)(F:Option Addr)(G l M k R:Nat)(E t d:Int)(w:World)(Q:0<l)(ht:-100000≤t∧t≤1024)(U:max (t-53) (-1074)=d)(hk:d+1074=k)(N:k≤2045)(hM:M≤9007199254740992)
  (X:∀h,Below w.heap.size w h→Calls Tryz.prog 169 #[.agg #[.bool D,.slice F l G,.int .i64 E]] h fun e u=>e=.returned (.int .i64 t)∧Below h.heap.size h u)
  (Y:∀h,Below w.heap.size w h→Calls Tryz.prog 281 #[.agg #[.bool D,.slice F l G,.int .i64 E],.int .i64 d] h fun e u=>e=.returned (.int .u64 M)∧Below h.heap.size h u)
  (hR:R=M+k*4503599627370496) (g1:decide (d≤E)=false) (g2:((R:Int)==9218868437227405312)=true):
  Calls Tryz.prog 261 #[.agg #[.bool D,.slice F l G,.int .i64 E]] w fun e h=>e=.returned (.tuple #[.int .u64 R,.int .u8 5])∧Below w.heap.size w h:=by
 have O:decide (0<l)=true:=decide_eq_true Q
 have hz:((l:Int)==0)=false:=by simp;omega
 have Z:=fun W ts t'=>ji Tryz.prog W ts t' (t-53) (-1074)
 rw[U]at Z
 have KT:=ac X;have KR:=ac Y
 have hg:decide ((1024:Int)<t)=false:=decide_eq_false (by omega)
 have w1:IntKind.i64.wrap (t-53)=t-53:=by simp only[IntKind.wrap_i64];omega
 have w2:IntKind.i64.wrap (d- -1074)=(k:Int):=by simp only[IntKind.wrap_i64];omega
 have w3:IntKind.u64.wrap (k:Int)=(k:Int):=by simp only[IntKind.wrap_u64];omega
 have H:=ac (show(M:Int)+(k:Int)*4503599627370496=(R:Int) by omega)
 clear X Y U hR
 have J:=ac ((Below.refl w.heap.size w).alloc (Nat.le_refl _) (.cells #[.bool D,.slice F l G,.int .i64 E] 35))
 have X0:=ac (ak.new w (.bool D) (.slice F l G) (.int .i64 E))
 go_enter Tryz.func261,Tryz.ntmps261
 go_wp2_with fail
 refine(uH KT _ (uH J)).mono ?_
 rintro e aa ⟨rfl,z⟩
 have I:=(uH X0).all z
 have K:=ac ((uH J).trans (z.mono (uH J).size))
 have X1:=ac I
 have y0:=I.c0;have y1:=I.c1;have y2:=I.c2
 clear z I KT J X0
 go_wp2_with fail
 refine(uH KR _ (uH K)).mono ?_
 rintro e ae ⟨rfl,A⟩
 have L:=(uH X1).all A
 have B2:=ac ((uH K).trans (A.mono (uH K).size))
 clear y0 y1 y2
 have y0:=L.c0;have y1:=L.c1;have y2:=L.c2
 clear A L KR K X1
 go_upto_region 8 with(fail)
 rw[uH H]
 clear Z w1 w2 w3 hk N hM H Q O hz hg ht
 go_wp2
 exact bodyPost_ret (v:=.tuple #[.int .u64 R,.int .u8 5]) (by simp[results,Tryz.results261,go_sem]) rfl ⟨rfl,uH B2⟩
theorem sY(D:Bool)(F:Option Addr)(G l M k R:Nat)(E t d:Int)(w:World)(Q:0<l)(ht:-100000≤t∧t≤1024)(U:max (t-53) (-1074)=d)(hk:d+1074=k)(N:k≤2045)(hM:M≤9007199254740992)
  (X:∀h,Below w.heap.size w h→Calls Tryz.prog 169 #[.agg #[.bool D,.slice F l G,.int .i64 E]] h fun e u=>e=.returned (.int .i64 t)∧Below h.heap.size h u)
  (Y:∀h,Below w.heap.size w h→Calls Tryz.prog 281 #[.agg #[.bool D,.slice F l G,.int .i64 E],.int .i64 d] h fun e u=>e=.returned (.int .u64 M)∧Below h.heap.size h u)
  (hR:R=M+k*4503599627370496) (g1:decide (d≤E)=false) (g2:((R:Int)==9218868437227405312)=false) (g3:decide ((R:Int)<4503599627370496)=true):
  Calls Tryz.prog 261 #[.agg #[.bool D,.slice F l G,.int .i64 E]] w fun e h=>e=.returned (.tuple #[.int .u64 R,.int .u8 3])∧Below w.heap.size w h:=by
 have O:decide (0<l)=true:=decide_eq_true Q
 have hz:((l:Int)==0)=false:=by simp;omega
 have Z:=fun W ts t'=>ji Tryz.prog W ts t' (t-53) (-1074)
 rw[U]at Z
 have KT:=ac X;have KR:=ac Y
 have hg:decide ((1024:Int)<t)=false:=decide_eq_false (by omega)
 have w1:IntKind.i64.wrap (t-53)=t-53:=by simp only[IntKind.wrap_i64];omega
 have w2:IntKind.i64.wrap (d- -1074)=(k:Int):=by simp only[IntKind.wrap_i64];omega
 have w3:IntKind.u64.wrap (k:Int)=(k:Int):=by simp only[IntKind.wrap_u64];omega
 have H:=ac (show(M:Int)+(k:Int)*4503599627370496=(R:Int) by omega)
 clear X Y U hR
 have J:=ac ((Below.refl w.heap.size w).alloc (Nat.le_refl _) (.cells #[.bool D,.slice F l G,.int .i64 E] 35))
 have X0:=ac (ak.new w (.bool D) (.slice F l G) (.int .i64 E))
 go_enter Tryz.func261,Tryz.ntmps261
 go_wp2_with fail
 refine(uH KT _ (uH J)).mono ?_
 rintro e aa ⟨rfl,z⟩
 have I:=(uH X0).all z
 have K:=ac ((uH J).trans (z.mono (uH J).size))
 have X1:=ac I
 have y0:=I.c0;have y1:=I.c1;have y2:=I.c2
 clear z I KT J X0
 go_wp2_with fail
 refine(uH KR _ (uH K)).mono ?_
 rintro e ae ⟨rfl,A⟩
 have L:=(uH X1).all A
 have B2:=ac ((uH K).trans (A.mono (uH K).size))
 clear y0 y1 y2
 have y0:=L.c0;have y1:=L.c1;have y2:=L.c2
 clear A L KR K X1
 go_upto_region 8 with(fail)
 rw[uH H]
 clear Z w1 w2 w3 hk N hM H Q O hz hg ht
 go_wp2
 exact bodyPost_ret (v:=.tuple #[.int .u64 R,.int .u8 3]) (by simp[results,Tryz.results261,go_sem]) rfl ⟨rfl,uH B2⟩
theorem sZ(D:Bool)(F:Option Addr)(G l M k R:Nat)(E t d:Int)(w:World)(Q:0<l)(ht:-100000≤t∧t≤1024)(U:max (t-53) (-1074)=d)(hk:d+1074=k)(N:k≤2045)(hM:M≤9007199254740992)
  (X:∀h,Below w.heap.size w h→Calls Tryz.prog 169 #[.agg #[.bool D,.slice F l G,.int .i64 E]] h fun e u=>e=.returned (.int .i64 t)∧Below h.heap.size h u)
  (Y:∀h,Below w.heap.size w h→Calls Tryz.prog 281 #[.agg #[.bool D,.slice F l G,.int .i64 E],.int .i64 d] h fun e u=>e=.returned (.int .u64 M)∧Below h.heap.size h u)
  (hR:R=M+k*4503599627370496) (g1:decide (d≤E)=false) (g2:((R:Int)==9218868437227405312)=false) (g3:decide ((R:Int)<4503599627370496)=false):
  Calls Tryz.prog 261 #[.agg #[.bool D,.slice F l G,.int .i64 E]] w fun e h=>e=.returned (.tuple #[.int .u64 R,.int .u8 1])∧Below w.heap.size w h:=by
 have O:decide (0<l)=true:=decide_eq_true Q
 have hz:((l:Int)==0)=false:=by simp;omega
 have Z:=fun W ts t'=>ji Tryz.prog W ts t' (t-53) (-1074)
 rw[U]at Z
 have KT:=ac X;have KR:=ac Y
 have hg:decide ((1024:Int)<t)=false:=decide_eq_false (by omega)
 have w1:IntKind.i64.wrap (t-53)=t-53:=by simp only[IntKind.wrap_i64];omega
 have w2:IntKind.i64.wrap (d- -1074)=(k:Int):=by simp only[IntKind.wrap_i64];omega
 have w3:IntKind.u64.wrap (k:Int)=(k:Int):=by simp only[IntKind.wrap_u64];omega
 have H:=ac (show(M:Int)+(k:Int)*4503599627370496=(R:Int) by omega)
 clear X Y U hR
 have J:=ac ((Below.refl w.heap.size w).alloc (Nat.le_refl _) (.cells #[.bool D,.slice F l G,.int .i64 E] 35))
 have X0:=ac (ak.new w (.bool D) (.slice F l G) (.int .i64 E))
 go_enter Tryz.func261,Tryz.ntmps261
 go_wp2_with fail
 refine(uH KT _ (uH J)).mono ?_
 rintro e aa ⟨rfl,z⟩
 have I:=(uH X0).all z
 have K:=ac ((uH J).trans (z.mono (uH J).size))
 have X1:=ac I
 have y0:=I.c0;have y1:=I.c1;have y2:=I.c2
 clear z I KT J X0
 go_wp2_with fail
 refine(uH KR _ (uH K)).mono ?_
 rintro e ae ⟨rfl,A⟩
 have L:=(uH X1).all A
 have B2:=ac ((uH K).trans (A.mono (uH K).size))
 clear y0 y1 y2
 have y0:=L.c0;have y1:=L.c1;have y2:=L.c2
 clear A L KR K X1
 go_upto_region 8 with(fail)
 rw[uH H]
 clear Z w1 w2 w3 hk N hM H Q O hz hg ht
 go_wp2
 exact bodyPost_ret (v:=.tuple #[.int .u64 R,.int .u8 1]) (by simp[results,Tryz.results261,go_sem]) rfl ⟨rfl,uH B2⟩
theorem tc(u:Bool)(z:Option Addr)(A:Nat)(E t:Int)(w:World)
  (H:∀h,Below w.heap.size w h→Calls Tryz.prog 169 #[.agg #[.bool u,.slice z 0 A,.int .i64 E]] h fun e G=>e=.returned (.int .i64 t)∧Below h.heap.size h G):
  Calls Tryz.prog 261 #[.agg #[.bool u,.slice z 0 A,.int .i64 E]] w fun e h=>e=.returned (.tuple #[.int .u64 0,.int .u8 0])∧Below w.heap.size w h:=by
 have I:=ac H
 clear H
 have D:=ac ((Below.refl w.heap.size w).alloc (Nat.le_refl _) (.cells #[.bool u,.slice z 0 A,.int .i64 E] 35))
 have J:=ac (ak.new w (.bool u) (.slice z 0 A) (.int .i64 E))
 go_enter Tryz.func261,Tryz.ntmps261
 go_wp2_with fail
 refine(uH I _ (uH D)).mono ?_
 rintro e L ⟨rfl,d⟩
 have F:=(uH J).all d
 have K:=ac ((uH D).trans (d.mono (uH D).size))
 have N:=F.c0;have O:=F.c1;have Q:=F.c2
 clear d F I D J
 go_wp2
 exact bodyPost_ret (v:=.tuple #[.int .u64 0,.int .u8 0]) (by simp[results,Tryz.results261,go_sem]) rfl ⟨rfl,uH K⟩
theorem td(u:Bool)(z:Option Addr)(A l:Nat)(E t:Int)(w:World)(L:0<l)(H:1024<t)
  (I:∀h,Below w.heap.size w h→Calls Tryz.prog 169 #[.agg #[.bool u,.slice z l A,.int .i64 E]] h fun e G=>e=.returned (.int .i64 t)∧Below h.heap.size h G):
  Calls Tryz.prog 261 #[.agg #[.bool u,.slice z l A,.int .i64 E]] w fun e h=>e=.returned (.tuple #[.int .u64 9218868437227405312,.int .u8 5])∧Below w.heap.size w h:=by
 have N:decide (0<l)=true:=decide_eq_true L
 have U:((l:Int)==0)=false:=by simp;omega
 have X:decide ((1024:Int)<t)=true:=decide_eq_true H
 have J:=ac I
 clear I H
 have D:=ac ((Below.refl w.heap.size w).alloc (Nat.le_refl _) (.cells #[.bool u,.slice z l A,.int .i64 E] 35))
 have K:=ac (ak.new w (.bool u) (.slice z l A) (.int .i64 E))
 go_enter Tryz.func261,Tryz.ntmps261
 go_wp2_with fail
 refine(uH J _ (uH D)).mono ?_
 rintro e Q ⟨rfl,d⟩
 have F:=(uH K).all d
 have O:=ac ((uH D).trans (d.mono (uH D).size))
 have Y:=F.c0;have Z:=F.c1;have y2:=F.c2
 clear d F J D K
 go_wp2
 exact bodyPost_ret (v:=.tuple #[.int .u64 9218868437227405312,.int .u8 5]) (by simp[results,Tryz.results261,go_sem]) rfl ⟨rfl,uH O⟩
theorem Io{n:Bool}{L:List Nat}(d:av n L=true)(u:L≠ []):ai L≠0:=fun h=>u ((aQ L (ay d).2.1).1 h)
theorem py(u:Bool)(z:Option Addr)(D:Nat)(A:List Nat)(E:Int)(w:World)(N:ag w z D A)(hr:kt u A E=true):
  Calls Tryz.prog 261 #[.agg #[.bool u,.slice z A.length D,.int .i64 E]] w fun e d=>e=.returned (.tuple #[.int .u64 (bY (ai A) E:Nat),.int .u8 (bI (ai A) E)])∧Below w.heap.size w d:=by
 obtain⟨d1,d2,d3,d4,d5⟩:=bV hr
 have G:∀d,Below w.heap.size w d→Calls Tryz.prog 169 #[.agg #[.bool u,.slice z A.length D,.int .i64 E]] d fun e I=>e=.returned (.int .i64 (IntKind.i64.wrap (dL A+E)))∧Below d.heap.size d I:=fun d hb=>kE u z D A E d (N.below hb) (by omega)
 rw[iS N.2.1 d1]at G
 by_cases O:A= []
 ·subst O
  have e1:bY (ai []) E=0:=by simp[bY,ai]
  have F:bI (ai []) E=0:=by simp[bI,ai]
  rw[e1,F]
  exact tc u z D E _ w G
 ·have H:=Io d1 O
  have K:0<A.length:=List.length_pos_iff.2 O
  have ae:bl (ai A)≤16384:=by
   have h1:=bF (ai A) H
   have h2:=j4 A N.2.1 512 d2
   have:=cF (Nat.lt_of_le_of_lt h1.2.1 h2)
   omega
  have hw:IntKind.i64.wrap ((bl (ai A):Int)+E)=(bl (ai A):Int)+E:=by simp only[IntKind.wrap_i64];omega
  rw[hw]at G
  by_cases Q:1024<(bl (ai A):Int)+E
  ·have e1:bY (ai A) E=9218868437227405312:=by unfold bY;rw[if_neg H,if_pos Q]
   have F:bI (ai A) E=5:=by unfold bI;rw[if_neg H,if_pos Q]
   rw[e1,F]
   exact td u z D A.length E _ w K Q G
  ·have U:=dh (ai A) E H (by omega)
   obtain⟨l1,l2,l3⟩:=cu (ai A) E
   have X:=(cP (ai A) E H).1
   have hN:=Kf (ai A) E H
   have aa:=(bF (ai A) H).1
   have Y:∀d,Below w.heap.size w d→Calls Tryz.prog 281 #[.agg #[.bool u,.slice z A.length D,.int .i64 E],.int .i64 (aD (ai A) E)] d fun e I=>e=.returned (.int .u64 (dW (ai A) E:Nat))∧Below d.heap.size d I:=fun d hb=>
    sT u z D A E _ d (N.below hb) hr O (by omega) (by omega) hN
   have h:max ((bl (ai A):Int)+E-53) (-1074)=aD (ai A) E:=rfl
   have Z:aD (ai A) E+1074=((aD (ai A) E+1074).toNat:Int):=by omega
   have F:bI (ai A) E=if aD (ai A) E≤E then 0 else if bY (ai A) E=9218868437227405312 then 5 else if bY (ai A) E<4503599627370496 then 3 else 1:=by unfold bI;rw[if_neg H,if_neg Q]
   by_cases J:aD (ai A) E≤E
   ·rw[F,if_pos J]
    exact sU u z D A.length _ _ _ E _ _ w K (by omega) h Z (by omega) X G Y U (decide_eq_true J)
   ·rw[if_neg J]at F
    by_cases g2:bY (ai A) E=9218868437227405312
    ·rw[F,if_pos g2]
     exact sX u z D A.length _ _ _ E _ _ w K (by omega) h Z (by omega) X G Y U (decide_eq_false J) (by simp;omega)
    ·rw[if_neg g2]at F
     have L:((bY (ai A) E:Int)==9218868437227405312)=false:=by simp;omega
     by_cases g3:bY (ai A) E<4503599627370496
     ·rw[F,if_pos g3]
      exact sY u z D A.length _ _ _ E _ _ w K (by omega) h Z (by omega) X G Y U (decide_eq_false J) L (decide_eq_true (by omega))
     ·rw[F,if_neg g3]
      exact sZ u z D A.length _ _ _ E _ _ w K (by omega) h Z (by omega) X G Y U (decide_eq_false J) L (decide_eq_false (by omega))
def gA(neg:Bool)(r:Nat):Nat:=if neg=true then r+9223372036854775808 else r
theorem eM(r:Nat):gA true r=r+9223372036854775808:=if_pos rfl
theorem bN(r:Nat):gA false r=r:=if_neg Bool.false_ne_true
theorem AX(r:Nat)(h:r<9223372036854775808):fN r=gA true r:=by rw[eM];unfold fN;exact if_neg (by omega)
theorem te(D:Bool)(L:Option Addr)(N:Nat)(A:List Nat)(E:Int)(w:World)(hA:ag w L N A)(hr:kt D A E=true)(hT:ch w):
  Calls Tryz.prog 229 #[.agg #[.bool D,.slice L A.length N,.int .i64 E]] w fun e H=>e=.returned (.tuple #[.int .u64 (gA D (bY (ai A) E):Nat),.int .u8 (bI (ai A) E),.int .i64 0])∧Below w.heap.size w H:=by
 have la:=(bV hr).2.1
 have Q:=ac (fun H h t=>iM D L N A E H h (by omega) t)
 have he:nP D A E=0:=by unfold nP;rw[hr];rfl
 rw[he]at Q
 have CR:=ac (fun H h=>py D L N A E H h hr)
 have aa:=dK (ai A) E
 have hn:fN (bY (ai A) E)=gA true (bY (ai A) E):=AX _ (by omega)
 have CM:=ac (fun H=>fk (bY (ai A) E) H (by omega))
 rw[hn]at CM
 clear he hr la
 have G:=ac ((Below.refl w.heap.size w).alloc (Nat.le_refl _) (.cells #[.bool D,.slice L A.length N,.int .i64 E] 35))
 have X0:=ac (ak.new w (.bool D) (.slice L A.length N) (.int .i64 E))
 have O:=ac (hA.below (uH G));have HT:=ac (hT.all (uH G))
 have I:gA false (bY (ai A) E)=bY (ai A) E:=bN _
 clear hA hT aa hn
 generalize bI (ai A) E=fl at*
 generalize bY (ai A) E=R at*
 cases D
 ·rw[I]
  clear CM I
  go_enter Tryz.func229,Tryz.ntmps229
  go_wp2_with fail
  refine(uH Q _ (uH O) (uH HT)).mono ?_
  rintro e w1 ⟨rfl,d⟩
  have J:=ac ((uH G).trans (d.mono (uH G).size))
  have z:=(uH X0).all d
  have K:=ac ((uH O).below d)
  have U:=z.c0;have X:=z.c1;have Y:=z.c2
  have Z:=ac z
  clear d G Q O HT X0 z
  go_wp2_with fail
  refine(uH CR _ (uH K)).mono ?_
  rintro e w2 ⟨rfl,u⟩
  have B2:=ac ((uH J).trans (u.mono (uH J).size))
  have F:=(uH Z).all u
  clear U X Y
  have U:=F.c0;have X:=F.c1;have Y:=F.c2
  clear u F CR J Z
  go_wp2
  exact bodyPost_ret (v:=.tuple #[.int .u64 R,.int .u8 fl,.int .i64 0]) (by simp[results,Tryz.results229,go_sem]) rfl ⟨rfl,uH B2⟩
 ·clear I
  generalize gA true R=R' at*
  go_enter Tryz.func229,Tryz.ntmps229
  go_wp2_with fail
  refine(uH Q _ (uH O) (uH HT)).mono ?_
  rintro e w1 ⟨rfl,d⟩
  have J:=ac ((uH G).trans (d.mono (uH G).size))
  have z:=(uH X0).all d
  have K:=ac ((uH O).below d)
  have U:=z.c0;have X:=z.c1;have Y:=z.c2
  have Z:=ac z
  clear d G Q O HT X0 z
  go_wp2_with fail
  refine(uH CR _ (uH K)).mono ?_
  rintro e w2 ⟨rfl,u⟩
  have B2:=ac ((uH J).trans (u.mono (uH J).size))
  have F:=(uH Z).all u
  clear U X Y
  have U:=F.c0;have X:=F.c1;have Y:=F.c2
  clear u F CR J Z
  go_wp2_with(go_at_call 162;refine(uH CM _).mono ?_;rintro e w3 ⟨rfl,rfl⟩)
  exact bodyPost_ret (v:=.tuple #[.int .u64 R',.int .u8 fl,.int .i64 0]) (by simp[results,Tryz.results229,go_sem]) rfl ⟨rfl,uH B2⟩
theorem jj{w:World}{v:Value}{m e:Int}(h:aB w v m e)(z:m.natAbs<dl)(A:px m e=true)(D:ch w):
  Calls Tryz.prog 229 #[v] w fun r F=>r=.returned (.tuple #[.int .u64 (gA (decide (m<0)) (bY m.natAbs e):Nat),.int .u8 (bI m.natAbs e),.int .i64 0])∧Below w.heap.size w F:=by
 obtain⟨n,a,c,L,rfl,H,N,I,O,J⟩:=h.right z
 have d:n=decide (m<0):=by
  obtain⟨Q,U,X,Y,u,_,_,K,_⟩:=h.parts
  simp only[Value.agg.injEq,Array.mk.injEq,List.cons.injEq,Value.bool.injEq]at u
  rw[u.1];exact K
 have G:ai L=m.natAbs:=by rw[←I,aM]
 have:=te n a c L e w H (J.trans A) D
 rw[G,d]at this
 rw[d]
 exact this
theorem Ip(b:Nat):(fM b).natAbs=fA b:=by unfold fM sg;split<;>simp
theorem Iq(b:Nat)(d:aj b=true):fP b<2047:=by
 have:=pX b
 unfold aj at d
 simp at d
 omega
theorem AY(b:Nat)(F:aj b=true):bY (fA b) (fE b)=b%9223372036854775808∧aD (fA b) (fE b)=fE b∧(bl (fA b):Int)+fE b≤1024:=by
 have J:=Iq b F
 have G:b%9223372036854775808=fF b+fP b*4503599627370496:=by unfold fF fP;omega
 have H:=sr b
 rw[G]
 by_cases h:fP b=0
 ·have z:fA b=fF b:=by unfold fA;rw[if_pos h]
  have A:fE b= -1074:=by unfold fE;rw[if_pos h]
  rw[z,A,h]
  generalize fF b=f at*
  by_cases D:f=0
  ·subst D
   exact⟨by simp[bY],by decide,by decide⟩
  ·obtain⟨K,L,N⟩:=bF f D
   have d:bl f≤52:=by
    have I:(2:Nat)^(bl f-1)<2^52:=by rw[G7];omega
    have:=cF I
    omega
   have u:aD f (-1074)= -1074:=by unfold aD;omega
   refine⟨?_,u,by omega⟩
   rw[dh f _ D (by omega)]
   unfold dW
   rw[u]
   have:=ky f 0
   simp at this
   simp[this]
 ·have z:fA b=fF b+4503599627370496:=by unfold fA;rw[if_neg h]
  have A:fE b=(fP b:Int)-1075:=by unfold fE;rw[if_neg h]
  rw[z,A]
  generalize fF b=f at*
  generalize fP b=p at*
  have d:bl (f+4503599627370496)=53:=mz (by decide) (by show 2^52≤_;rw[G7];omega) (by rw[Aj];omega)
  have u:aD (f+4503599627370496) ((p:Int)-1075)=(p:Int)-1075:=by unfold aD;rw[d];omega
  refine⟨?_,u,by rw[d];omega⟩
  rw[dh _ _ (by omega) (by rw[d];omega)]
  unfold dW
  rw[u]
  have:=ky (f+4503599627370496) 0
  simp at this
  rw[show(p:Int)-1075-((p:Int)-1075)=0 by omega,this]
  omega
theorem AZ(z:Int)(h:z≠0):z.natAbs=(oM z).natAbs*2^tz z.natAbs:=by
 have u:=(eE z h).1
 have d:=congrArg Int.natAbs u
 rw[Int.natAbs_mul,Int.natAbs_pow]at d
 exact d
theorem jC(z:Int):decide (oM z<0)=decide (z<0):=by
 have h:=wX z
 unfold f6 at h
 by_cases u:oM z<0
 ·rw[if_pos u]at h
  by_cases d:z<0
  ·rw[decide_eq_true u,decide_eq_true d]
  ·rw[if_neg d]at h
   split at h<;>omega
 ·rw[if_neg u]at h
  by_cases d:z<0
  ·rw[if_pos d]at h
   split at h<;>omega
  ·rw[decide_eq_false u,decide_eq_false d]
theorem jD(z e:Int):bY (oM z).natAbs (oE z e)=bY z.natAbs e∧(z≠0→aD (oM z).natAbs (oE z e)=aD z.natAbs e∧(bl (oM z).natAbs:Int)+oE z e=(bl z.natAbs:Int)+e):=by
 by_cases h:z=0
 ·subst h
  refine⟨by rw[aW];simp[bY],fun h=>absurd rfl h⟩
 ·have A:=AZ z h
  have d:(oM z).natAbs≠0:=by have:=(fi z h).1;omega
  rw[cq z e h]
  generalize tz z.natAbs=k at*
  rw[A,lK]
  refine⟨rfl,fun _=>?_⟩
  have u:=kx (oM z).natAbs k d
  refine⟨?_,by rw[u];omega⟩
  unfold aD
  rw[u]
  congr 1
  omega
end Go.Proofs.YtcbcmlaogehimaaGreatDoor
namespace Go.Proofs.YtcbcmlaogehimaaGreatDoor
theorem jk(n:Bool)(s:Nat)(h:s<9223372036854775808):fS (gA n s)=n:=by
 unfold fS
 cases n
 ·rw[bN];exact decide_eq_false (by omega)
 ·rw[eM];exact decide_eq_true (by omega)
theorem Ir(n:Bool)(s:Nat)(h:s<9223372036854775808):fP (gA n s)=s/4503599627370496:=by
 unfold fP
 cases n
 ·rw[bN];omega
 ·rw[eM];omega
theorem Is(n:Bool)(s:Nat)(_h:s<9223372036854775808):fF (gA n s)=s%4503599627370496:=by
 unfold fF
 cases n
 ·rw[bN]
 ·rw[eM];omega
theorem It(n:Bool)(s:Nat)(h:s<9218868437227405312):∃j:Nat,fE (gA n s)= -1074+(j:Int)∧fM (gA n s)*2^j=sg n (rv s):=by
 have u:=Ir n s (by omega)
 have z:=Is n s (by omega)
 have A:=jk n s (by omega)
 unfold fM fE fA rv
 rw[u,z,A]
 by_cases d:s<4503599627370496
 ·rw[if_pos (by omega),if_pos (by omega),if_pos d]
  refine⟨0,by simp,?_⟩
  rw[Nat.mod_eq_of_lt d]
  simp
 ·rw[if_neg (by omega),if_neg (by omega),if_neg d]
  refine⟨s/4503599627370496-1,by omega,?_⟩
  rw[Nat.add_comm 4503599627370496]
  generalize s%4503599627370496+4503599627370496=m
  generalize s/4503599627370496-1=j
  unfold sg
  cases n
  ·simp
  ·simp[Int.neg_mul]
open Go.RowKit
def pv(n:Bool)(r:Nat):Int:=if n=true then-(rv r:Int)else(rv r:Int)
theorem yR(n:Bool)(r:Nat)(h:r<9223372036854775808):(gA n r/9223372036854775808%2==1)=n∧gA n r%9223372036854775808=r:=by
 cases n
 ·rw[bN];exact⟨by simp;omega,by omega⟩
 ·rw[eM];exact⟨by simp;omega,by omega⟩
theorem Ha{r s:Nat}(h:r<s):rv r<rv s:=Nat.lt_of_lt_of_le (qz r) (iK h)
def yS(z l:Int):Int:=pv (decide (z<0)) (bY z.natAbs l)
theorem tf{z y l:Int}(h:z≤y):yS z l≤yS y l:=by
 unfold yS pv
 by_cases d:z<0
 ·rw[decide_eq_true d,if_pos rfl]
  by_cases u:y<0
  ·rw[decide_eq_true u,if_pos rfl]
   have:=iK (kz l (show y.natAbs≤z.natAbs by omega))
   omega
  ·rw[decide_eq_false u,if_neg (by decide)]
   omega
 ·rw[decide_eq_false d,decide_eq_false (show¬y<0 by omega),if_neg (by decide),if_neg (by decide)]
  have:=iK (kz l (show z.natAbs≤y.natAbs by omega))
  omega
theorem il(z lo:Int)(k:Nat)(h:z≠0→lo+k≤oE z lo):up (oM z) (oE z lo) (lo+k)*2^k=z:=by
 by_cases d:z=0
 ·subst d;rw[aW,d9];simp
 ·have u:=h d
  conv=>rhs;rw[←jh z lo d]
  unfold up
  rw[Int.mul_assoc,←Int.pow_add]
  congr 2
  omega
theorem lY{lo:Int}{W:Nat}{z1 z2:Int}(D:eY lo W z1)(J:eY lo W z2)(K:¬(z1=0∧z2=0)):
  ∃k:Nat,bL (oM z1) (oE z1 lo) (oM z2) (oE z2 lo)=lo+k∧up (oM z1) (oE z1 lo) (lo+k)*2^k=z1∧up (oM z2) (oE z2 lo) (lo+k)*2^k=z2∧oE z1 lo-(lo+k)≤16384∧oE z2 lo-(lo+k)≤16384:=by
 have O:=D.2.1
 have Q:=D.2.2.1
 have U:=D.2.2.2
 have G:∀z,eY lo W z→(z=0∧oM z=0∧oE z lo=0)∨(z≠0∧oM z≠0∧oE z lo=lo+(tz z.natAbs:Int)∧tz z.natAbs<W):=fun z L=>by
  by_cases e:z=0
  ·left;subst e;exact⟨rfl,aW,bf _⟩
  ·right;exact⟨e,(fi z e).1,cq z lo e,L.tzs e⟩
 rcases G z1 D with⟨H,F,I⟩|⟨H,F,I,X⟩
 ·rcases G z2 J with⟨d,u,A⟩|⟨d,u,A,N⟩
  ·exact absurd ⟨H,d⟩ K
  ·refine⟨tz z2.natAbs,?_,il z1 lo _ (fun h=>absurd H h),il z2 lo _ (fun _=>by omega),by omega,by omega⟩
   unfold bL;rw[if_pos F];exact A
 ·rcases G z2 J with⟨d,u,A⟩|⟨d,u,A,N⟩
  ·refine⟨tz z1.natAbs,?_,il z1 lo _ (fun _=>by omega),il z2 lo _ (fun h=>absurd d h),by omega,by omega⟩
   unfold bL;rw[if_neg F,if_pos u];exact I
  ·refine⟨min (tz z1.natAbs) (tz z2.natAbs),?_,il z1 lo _ (fun _=>by omega),il z2 lo _ (fun _=>by omega),by omega,by omega⟩
   rw[iP _ _ _ _ F u,I,A];omega
theorem jE{u z:Int}{k:Nat}(h:u*2^k=z):u.natAbs≤z.natAbs:=by
 rw[←h,Int.natAbs_mul,Int.natAbs_pow]
 exact Nat.le_mul_of_pos_right _ (Nat.pow_pos (by decide))
theorem eY.neg{lo:Int}{W:Nat}{z:Int}(h:eY lo W z):eY lo W (-z):=⟨by rw[Int.natAbs_neg];exact h.1,h.2⟩
theorem oq{m e:Int}(h:px m e=true):-16384≤e∧e≤16384:=by
 unfold px at h
 by_cases d:m=0
 ·rw[if_pos d]at h;have:=of_decide_eq_true h;omega
 ·rw[if_neg d,Bool.and_eq_true]at h;exact of_decide_eq_true h.2
theorem Kg{w:World}{v u:Value}{lo:Int}{W:Nat}{z1 z2:Int}(hv:aB w v (oM z1) (oE z1 lo))(hu:aB w u (oM z2) (oE z2 lo))(D:eY lo W z1)(G:eY lo W z2):
  Calls Tryz.prog 58 #[v,u] w fun r L=>∃q,r=.returned q∧aB L q (oM (z1-z2)) (oE (z1-z2) lo)∧Below w.heap.size w L:=by
 obtain⟨O,Q,U,A,rfl,X,Y,d,a4,a5⟩:=hv.right D.right.2
 obtain⟨nb,bo,cb,B,rfl,b1,b2,h,b4,b5⟩:=hu.right G.right.2
 have x1:=oq D.right.1
 have x2:=oq G.right.1
 have H:=Ik z2
 have N:=G.neg
 have t1:=D.tops
 have t2:=N.tops
 by_cases h0:z1=0∧z2=0
 ·obtain⟨rfl,rfl⟩:=h0
  have hz:∀W:World,W=W:=fun _=>rfl
  rw[aW]at d h
  rw[bf]at*
  have eZ:cS 0 0 (-0) 0=0:=by decide
  have eU:d8 0 0 (bL 0 0 (-0) 0)=0:=dN _ _ _ (by rw[d9];exact iN) (by decide)
  have I:d8 (-0) 0 (bL 0 0 (-0) 0)=0:=dN _ _ _ (by rw[Int.neg_zero,d9];exact iN) (by decide)
  have:=nZ O nb Q bo U cb A B 0 0 w X b1 Y b2 (by omega) (by omega) (by rw[d,h];exact eU) (by rw[d,h];exact I)
  rw[d,h,eZ,aW,bf]at this
  simpa[aW,bf]using this
 ·obtain⟨k,z,e2,F,e4,e5⟩:=lY D N (by omega)
  have J:oE (-z2) lo=oE z2 lo:=H.2 lo
  rw[H.1,J]at z
  have aa:=F
  rw[H.1,J]at F
  rw[J]at e5
  have g1:d8 (oM z1) (oE z1 lo) (lo+k)=0:=dN _ _ _ (Nat.lt_of_le_of_lt (jE e2) t1) e4
  have g2:d8 (-oM z2) (oE z2 lo) (lo+k)=0:=dN _ _ _ (Nat.lt_of_le_of_lt (jE F) t2) e5
  have:=nZ O nb Q bo U cb A B _ _ w X b1 Y b2 x1 x2 (by rw[d,h,z];exact g1) (by rw[d,h,z];exact g2)
  rw[d,h,z]at this
  have hZ:cS (oM z1) (oE z1 lo) (-oM z2) (oE z2 lo)*2^k=z1-z2:=by
   unfold cS
   rw[z,Int.add_mul,e2,F,Int.sub_eq_add_neg]
  generalize cS (oM z1) (oE z1 lo) (-oM z2) (oE z2 lo)=Z at*
  have K:=f7 Z k lo
  rw[hZ]at K
  rw[K.1,K.2]
  exact this
theorem vu(u v:Int)(k:Nat):bt (u*2^k) (v*2^k)=bt u v:=by
 rw[og,og,←Int.sub_mul,iQ]
theorem Hb{w:World}{v u:Value}{lo:Int}{W:Nat}{z1 z2:Int}(D:aB w v (oM z1) (oE z1 lo))(F:aB w u (oM z2) (oE z2 lo))(d:eY lo W z1)(h:eY lo W z2):
  Calls Tryz.prog 33 #[v,u] w fun r G=>r=.returned (.int .i64 (bt z1 z2))∧Below w.heap.size w G:=by
 obtain⟨I,J,K,A,rfl,L,a2,N,a4,O⟩:=D.right d.right.2
 obtain⟨Q,U,X,B,rfl,Y,b2,Z,b4,b5⟩:=F.right h.right.2
 have:=qK I Q J U K X A B _ _ w L Y (O.trans d.right.1) (b5.trans h.right.1)
 rw[N,Z]at this
 have H:kJ (oM z1) (oE z1 lo) (oM z2) (oE z2 lo)=bt z1 z2:=by
  by_cases z:z1=0∧z2=0
  ·obtain⟨rfl,rfl⟩:=z
   rw[aW,bf];rfl
  ·obtain⟨k,e1,e2,e3,_,_⟩:=lY d h z
   unfold kJ
   rw[e1,←vu _ _ k,e2,e3]
 rwa[H]at this
theorem Kh(z:Int):oM (oM z)=oM z:=by
 by_cases h:z=0
 ·subst h;rw[aW,aW]
 ·have d:=fi z h
  have:=(eE (oM z) d.1).unique (m':=oM z) (k':=0) ⟨by simp,d.2⟩
  exact this.1
theorem Ki(z e:Int)(h:z≠0):oE (oM z) e=e:=by
 have d:=fi z h
 have:=(eE (oM z) d.1).unique (m':=oM z) (k':=0) ⟨by simp,d.2⟩
 rw[cq _ _ d.1,this.2];simp
end Go.Proofs.YtcbcmlaogehimaaGreatDoor
