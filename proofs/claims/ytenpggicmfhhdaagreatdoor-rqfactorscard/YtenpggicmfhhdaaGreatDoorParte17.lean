/- Part 17 of the texts. -/
import Derived.Test.YtenpggicmfhhdaaGreatDoorParte16
set_option maxHeartbeats 4000000
namespace Go.Proofs.YtenpggicmfhhdaaGreatDoor
open Go.RowKit
theorem FU(v:Nat)(E:Int)(h:v≠0):pN v (E-aK v E)<1152921504606846976:=by
 obtain⟨z,A,D⟩:=fC v E
 obtain⟨F,G,m⟩:=bF v h
 generalize aK v E=l at*
 have t:(2:Nat)^54<1152921504606846976:=by decide
 unfold pN
 split
 ·obtain⟨k,f⟩:=Int.eq_ofNat_of_zero_le (show 0≤E-l+1 by omega)
  rw[f,Int.toNat_natCast]
  have d:v*2^k<2^bl v*2^k:=Nat.mul_lt_mul_of_pos_right m (Nat.two_pow_pos _)
  rw[←Nat.pow_add]at d
  have y:(2:Nat)^(bl v+k)≤2^54:=eC (by omega)
  omega
 ·obtain⟨k,f⟩:=Int.eq_ofNat_of_zero_le (show 0≤-(E-l+1) by omega)
  rw[f,Int.toNat_natCast]
  have d:v<2^54*2^k:=by
   rw[←Nat.pow_add]
   exact Nat.lt_of_lt_of_le m (eC (by omega))
  have y:v/2^k<2^54:=Nat.div_lt_of_lt_mul (by rw[Nat.mul_comm];exact d)
  omega
theorem ix(P:Program)(w:World)(d:Array TypeId)(t:TypeId)(x y:Int):(Builtin.max_ d t #[.int .i64 x,.int .i64 y]).run P w=.ok (.int .i64 (max x y)) w:=by
 rw[run_max_int2]
 congr 2
 split<;>omega
theorem qN(z:Bool)(A:Option Addr)(D l M k R:Nat)(E t d:Int)(w:World)(O:0<l)(ht:-100000≤t∧t≤1024)(Q:max (t-53) (-1074)=d)(hk:d+1074=k)(L:k≤2045)(hM:M≤9007199254740992)
  (T:∀f,Below w.heap.size w f→Calls Tryz.prog 134 #[.agg #[.bool z,.slice A l D,.int .i64 E]] f fun e h=>e=.returned (.int .i64 t)∧Below f.heap.size f h)
  (U:∀f,Below w.heap.size w f→Calls Tryz.prog 185 #[.agg #[.bool z,.slice A l D,.int .i64 E],.int .i64 d] f fun e h=>e=.returned (.int .u64 M)∧Below f.heap.size f h)
  (hR:R=M+k*4503599627370496) (g1:decide (d≤E)=true):
  Calls Tryz.prog 170 #[.agg #[.bool z,.slice A l D,.int .i64 E]] w fun e f=>e=.returned (.tuple #[.int .u64 R,.int .u8 0])∧Below w.heap.size w f:=by
 have N:decide (0<l)=true:=decide_eq_true O
 have hz:((l:Int)==0)=false:=by simp;omega
 have V:=fun W ts t'=>ix Tryz.prog W ts t' (t-53) (-1074)
 rw[Q]at V
 have X:=aa T;have Y:=aa U
 have hg:decide ((1024:Int)<t)=false:=decide_eq_false (by omega)
 have w1:IntKind.i64.wrap (t-53)=t-53:=by simp only[IntKind.wrap_i64];omega
 have w2:IntKind.i64.wrap (d- -1074)=(k:Int):=by simp only[IntKind.wrap_i64];omega
 have w3:IntKind.u64.wrap (k:Int)=(k:Int):=by simp only[IntKind.wrap_u64];omega
 have F:=aa (show(M:Int)+(k:Int)*4503599627370496=(R:Int) by omega)
 clear T U Q hR
 have H:=aa ((Below.refl w.heap.size w).alloc (Nat.le_refl _) (.cells #[.bool z,.slice A l D,.int .i64 E] 110))
 have Z:=aa (aB.new w (.bool z) (.slice A l D) (.int .i64 E))
 go_enter Tryz.func170,Tryz.ntmps170
 go_wp2_with fail
 refine(uH X _ (uH H)).mono ?_
 rintro e ae ⟨rfl,m⟩
 have G:=(uH Z).all m
 have I:=aa ((uH H).trans (m.mono (uH H).size))
 have X1:=aa G
 have y0:=G.c0;have y1:=G.c1;have y2:=G.c2
 clear m G X H Z
 go_wp2_with fail
 refine(uH Y _ (uH I)).mono ?_
 rintro e aj ⟨rfl,y⟩
 have K:=(uH X1).all y
 have B2:=aa ((uH I).trans (y.mono (uH I).size))
 clear y0 y1 y2
 have y0:=K.c0;have y1:=K.c1;have y2:=K.c2
 clear y K Y I X1
 go_upto_region 8 with(fail)
 rw[uH F]
 clear V w1 w2 w3 hk L hM F O N hz hg ht
 go_wp2
 exact bodyPost_ret (v:=.tuple #[.int .u64 R,.int .u8 0]) (by simp[results,Tryz.results170,go_sem]) rfl ⟨rfl,uH B2⟩
theorem qO(z:Bool)(A:Option Addr)(D l M k R:Nat)(E t d:Int)(w:World)(O:0<l)(ht:-100000≤t∧t≤1024)(Q:max (t-53) (-1074)=d)(hk:d+1074=k)(L:k≤2045)(hM:M≤9007199254740992)
  (T:∀f,Below w.heap.size w f→Calls Tryz.prog 134 #[.agg #[.bool z,.slice A l D,.int .i64 E]] f fun e h=>e=.returned (.int .i64 t)∧Below f.heap.size f h)
  (U:∀f,Below w.heap.size w f→Calls Tryz.prog 185 #[.agg #[.bool z,.slice A l D,.int .i64 E],.int .i64 d] f fun e h=>e=.returned (.int .u64 M)∧Below f.heap.size f h)
  (hR:R=M+k*4503599627370496) (g1:decide (d≤E)=false) (g2:((R:Int)==9218868437227405312)=true):
  Calls Tryz.prog 170 #[.agg #[.bool z,.slice A l D,.int .i64 E]] w fun e f=>e=.returned (.tuple #[.int .u64 R,.int .u8 5])∧Below w.heap.size w f:=by
 have N:decide (0<l)=true:=decide_eq_true O
 have hz:((l:Int)==0)=false:=by simp;omega
 have V:=fun W ts t'=>ix Tryz.prog W ts t' (t-53) (-1074)
 rw[Q]at V
 have X:=aa T;have Y:=aa U
 have hg:decide ((1024:Int)<t)=false:=decide_eq_false (by omega)
 have w1:IntKind.i64.wrap (t-53)=t-53:=by simp only[IntKind.wrap_i64];omega
 have w2:IntKind.i64.wrap (d- -1074)=(k:Int):=by simp only[IntKind.wrap_i64];omega
 have w3:IntKind.u64.wrap (k:Int)=(k:Int):=by simp only[IntKind.wrap_u64];omega
 have F:=aa (show(M:Int)+(k:Int)*4503599627370496=(R:Int) by omega)
 clear T U Q hR
 have H:=aa ((Below.refl w.heap.size w).alloc (Nat.le_refl _) (.cells #[.bool z,.slice A l D,.int .i64 E] 110))
 have Z:=aa (aB.new w (.bool z) (.slice A l D) (.int .i64 E))
 go_enter Tryz.func170,Tryz.ntmps170
 go_wp2_with fail
 refine(uH X _ (uH H)).mono ?_
 rintro e ae ⟨rfl,m⟩
 have G:=(uH Z).all m
 have I:=aa ((uH H).trans (m.mono (uH H).size))
 have X1:=aa G
 have y0:=G.c0;have y1:=G.c1;have y2:=G.c2
 clear m G X H Z
 go_wp2_with fail
 refine(uH Y _ (uH I)).mono ?_
 rintro e aj ⟨rfl,y⟩
 have K:=(uH X1).all y
 have B2:=aa ((uH I).trans (y.mono (uH I).size))
 clear y0 y1 y2
 have y0:=K.c0;have y1:=K.c1;have y2:=K.c2
 clear y K Y I X1
 go_upto_region 8 with(fail)
 rw[uH F]
 clear V w1 w2 w3 hk L hM F O N hz hg ht
 go_wp2
 exact bodyPost_ret (v:=.tuple #[.int .u64 R,.int .u8 5]) (by simp[results,Tryz.results170,go_sem]) rfl ⟨rfl,uH B2⟩
theorem qP(z:Bool)(A:Option Addr)(D l M k R:Nat)(E t d:Int)(w:World)(O:0<l)(ht:-100000≤t∧t≤1024)(Q:max (t-53) (-1074)=d)(hk:d+1074=k)(L:k≤2045)(hM:M≤9007199254740992)
  (T:∀f,Below w.heap.size w f→Calls Tryz.prog 134 #[.agg #[.bool z,.slice A l D,.int .i64 E]] f fun e h=>e=.returned (.int .i64 t)∧Below f.heap.size f h)
  (U:∀f,Below w.heap.size w f→Calls Tryz.prog 185 #[.agg #[.bool z,.slice A l D,.int .i64 E],.int .i64 d] f fun e h=>e=.returned (.int .u64 M)∧Below f.heap.size f h)
  (hR:R=M+k*4503599627370496) (g1:decide (d≤E)=false) (g2:((R:Int)==9218868437227405312)=false) (g3:decide ((R:Int)<4503599627370496)=true):
  Calls Tryz.prog 170 #[.agg #[.bool z,.slice A l D,.int .i64 E]] w fun e f=>e=.returned (.tuple #[.int .u64 R,.int .u8 3])∧Below w.heap.size w f:=by
 have N:decide (0<l)=true:=decide_eq_true O
 have hz:((l:Int)==0)=false:=by simp;omega
 have V:=fun W ts t'=>ix Tryz.prog W ts t' (t-53) (-1074)
 rw[Q]at V
 have X:=aa T;have Y:=aa U
 have hg:decide ((1024:Int)<t)=false:=decide_eq_false (by omega)
 have w1:IntKind.i64.wrap (t-53)=t-53:=by simp only[IntKind.wrap_i64];omega
 have w2:IntKind.i64.wrap (d- -1074)=(k:Int):=by simp only[IntKind.wrap_i64];omega
 have w3:IntKind.u64.wrap (k:Int)=(k:Int):=by simp only[IntKind.wrap_u64];omega
 have F:=aa (show(M:Int)+(k:Int)*4503599627370496=(R:Int) by omega)
 clear T U Q hR
 have H:=aa ((Below.refl w.heap.size w).alloc (Nat.le_refl _) (.cells #[.bool z,.slice A l D,.int .i64 E] 110))
 have Z:=aa (aB.new w (.bool z) (.slice A l D) (.int .i64 E))
 go_enter Tryz.func170,Tryz.ntmps170
 go_wp2_with fail
 refine(uH X _ (uH H)).mono ?_
 rintro e ae ⟨rfl,m⟩
 have G:=(uH Z).all m
 have I:=aa ((uH H).trans (m.mono (uH H).size))
 have X1:=aa G
 have y0:=G.c0;have y1:=G.c1;have y2:=G.c2
 clear m G X H Z
 go_wp2_with fail
 refine(uH Y _ (uH I)).mono ?_
 rintro e aj ⟨rfl,y⟩
 have K:=(uH X1).all y
 have B2:=aa ((uH I).trans (y.mono (uH I).size))
 clear y0 y1 y2
 have y0:=K.c0;have y1:=K.c1;have y2:=K.c2
 clear y K Y I X1
 go_upto_region 8 with(fail)
 rw[uH F]
 clear V w1 w2 w3 hk L hM F O N hz hg ht
 go_wp2
 exact bodyPost_ret (v:=.tuple #[.int .u64 R,.int .u8 3]) (by simp[results,Tryz.results170,go_sem]) rfl ⟨rfl,uH B2⟩
theorem qQ(z:Bool)(A:Option Addr)(D l M k R:Nat)(E t d:Int)(w:World)(O:0<l)(ht:-100000≤t∧t≤1024)(Q:max (t-53) (-1074)=d)(hk:d+1074=k)(L:k≤2045)(hM:M≤9007199254740992)
  (T:∀f,Below w.heap.size w f→Calls Tryz.prog 134 #[.agg #[.bool z,.slice A l D,.int .i64 E]] f fun e h=>e=.returned (.int .i64 t)∧Below f.heap.size f h)
  (U:∀f,Below w.heap.size w f→Calls Tryz.prog 185 #[.agg #[.bool z,.slice A l D,.int .i64 E],.int .i64 d] f fun e h=>e=.returned (.int .u64 M)∧Below f.heap.size f h)
  (hR:R=M+k*4503599627370496) (g1:decide (d≤E)=false) (g2:((R:Int)==9218868437227405312)=false) (g3:decide ((R:Int)<4503599627370496)=false):
  Calls Tryz.prog 170 #[.agg #[.bool z,.slice A l D,.int .i64 E]] w fun e f=>e=.returned (.tuple #[.int .u64 R,.int .u8 1])∧Below w.heap.size w f:=by
 have N:decide (0<l)=true:=decide_eq_true O
 have hz:((l:Int)==0)=false:=by simp;omega
 have V:=fun W ts t'=>ix Tryz.prog W ts t' (t-53) (-1074)
 rw[Q]at V
 have X:=aa T;have Y:=aa U
 have hg:decide ((1024:Int)<t)=false:=decide_eq_false (by omega)
 have w1:IntKind.i64.wrap (t-53)=t-53:=by simp only[IntKind.wrap_i64];omega
 have w2:IntKind.i64.wrap (d- -1074)=(k:Int):=by simp only[IntKind.wrap_i64];omega
 have w3:IntKind.u64.wrap (k:Int)=(k:Int):=by simp only[IntKind.wrap_u64];omega
 have F:=aa (show(M:Int)+(k:Int)*4503599627370496=(R:Int) by omega)
 clear T U Q hR
 have H:=aa ((Below.refl w.heap.size w).alloc (Nat.le_refl _) (.cells #[.bool z,.slice A l D,.int .i64 E] 110))
 have Z:=aa (aB.new w (.bool z) (.slice A l D) (.int .i64 E))
 go_enter Tryz.func170,Tryz.ntmps170
 go_wp2_with fail
 refine(uH X _ (uH H)).mono ?_
 rintro e ae ⟨rfl,m⟩
 have G:=(uH Z).all m
 have I:=aa ((uH H).trans (m.mono (uH H).size))
 have X1:=aa G
 have y0:=G.c0;have y1:=G.c1;have y2:=G.c2
 clear m G X H Z
 go_wp2_with fail
 refine(uH Y _ (uH I)).mono ?_
 rintro e aj ⟨rfl,y⟩
 have K:=(uH X1).all y
 have B2:=aa ((uH I).trans (y.mono (uH I).size))
 clear y0 y1 y2
 have y0:=K.c0;have y1:=K.c1;have y2:=K.c2
 clear y K Y I X1
 go_upto_region 8 with(fail)
 rw[uH F]
 clear V w1 w2 w3 hk L hM F O N hz hg ht
 go_wp2
 exact bodyPost_ret (v:=.tuple #[.int .u64 R,.int .u8 1]) (by simp[results,Tryz.results170,go_sem]) rfl ⟨rfl,uH B2⟩
theorem qR(h:Bool)(l:Option Addr)(m:Nat)(E t:Int)(w:World)
  (D:∀f,Below w.heap.size w f→Calls Tryz.prog 134 #[.agg #[.bool h,.slice l 0 m,.int .i64 E]] f fun e A=>e=.returned (.int .i64 t)∧Below f.heap.size f A):
  Calls Tryz.prog 170 #[.agg #[.bool h,.slice l 0 m,.int .i64 E]] w fun e f=>e=.returned (.tuple #[.int .u64 0,.int .u8 0])∧Below w.heap.size w f:=by
 have F:=aa D
 clear D
 have y:=aa ((Below.refl w.heap.size w).alloc (Nat.le_refl _) (.cells #[.bool h,.slice l 0 m,.int .i64 E] 110))
 have G:=aa (aB.new w (.bool h) (.slice l 0 m) (.int .i64 E))
 go_enter Tryz.func170,Tryz.ntmps170
 go_wp2_with fail
 refine(uH F _ (uH y)).mono ?_
 rintro e I ⟨rfl,d⟩
 have z:=(uH G).all d
 have H:=aa ((uH y).trans (d.mono (uH y).size))
 have K:=z.c0;have L:=z.c1;have M:=z.c2
 clear d z F y G
 go_wp2
 exact bodyPost_ret (v:=.tuple #[.int .u64 0,.int .u8 0]) (by simp[results,Tryz.results170,go_sem]) rfl ⟨rfl,uH H⟩
theorem qT(h:Bool)(m:Option Addr)(y l:Nat)(E t:Int)(w:World)(K:0<l)(F:1024<t)
  (G:∀f,Below w.heap.size w f→Calls Tryz.prog 134 #[.agg #[.bool h,.slice m l y,.int .i64 E]] f fun e D=>e=.returned (.int .i64 t)∧Below f.heap.size f D):
  Calls Tryz.prog 170 #[.agg #[.bool h,.slice m l y,.int .i64 E]] w fun e f=>e=.returned (.tuple #[.int .u64 9218868437227405312,.int .u8 5])∧Below w.heap.size w f:=by
 have L:decide (0<l)=true:=decide_eq_true K
 have O:((l:Int)==0)=false:=by simp;omega
 have Q:decide ((1024:Int)<t)=true:=decide_eq_true F
 have H:=aa G
 clear G F
 have z:=aa ((Below.refl w.heap.size w).alloc (Nat.le_refl _) (.cells #[.bool h,.slice m l y,.int .i64 E] 110))
 have I:=aa (aB.new w (.bool h) (.slice m l y) (.int .i64 E))
 go_enter Tryz.func170,Tryz.ntmps170
 go_wp2_with fail
 refine(uH H _ (uH z)).mono ?_
 rintro e N ⟨rfl,d⟩
 have A:=(uH I).all d
 have M:=aa ((uH z).trans (d.mono (uH z).size))
 have T:=A.c0;have U:=A.c1;have V:=A.c2
 clear d A H z I
 go_wp2
 exact bodyPost_ret (v:=.tuple #[.int .u64 9218868437227405312,.int .u8 5]) (by simp[results,Tryz.results170,go_sem]) rfl ⟨rfl,uH M⟩
theorem Et{n:Bool}{L:List Nat}(d:aw n L=true)(f:L≠ []):ah L≠0:=fun h=>f ((aM L (aA d).2.1).1 h)
theorem nO(h:Bool)(l:Option Addr)(m:Nat)(A:List Nat)(E:Int)(w:World)(I:af w l m A)(V:jF h A E=true):
  Calls Tryz.prog 170 #[.agg #[.bool h,.slice l A.length m,.int .i64 E]] w fun e d=>e=.returned (.tuple #[.int .u64 (bW (ah A) E:Nat),.int .u8 (bH (ah A) E)])∧Below w.heap.size w d:=by
 obtain⟨d1,d2,d3,d4,d5⟩:=bQ V
 have y:∀d,Below w.heap.size w d→Calls Tryz.prog 134 #[.agg #[.bool h,.slice l A.length m,.int .i64 E]] d fun e D=>e=.returned (.int .i64 (IntKind.i64.wrap (dn A+E)))∧Below d.heap.size d D:=fun d T=>jO h l m A E d (I.below T) (by omega)
 rw[g9 I.2.1 d1]at y
 by_cases K:A= []
 ·subst K
  have U:bW (ah []) E=0:=by simp[bW,ah]
  have t:bH (ah []) E=0:=by simp[bH,ah]
  rw[U,t]
  exact qR h l m E _ w y
 ·have z:=Et d1 K
  have G:0<A.length:=List.length_pos_iff.2 K
  have ae:bl (ah A)≤16384:=by
   have h1:=bF (ah A) z
   have h2:=sK A I.2.1 512 d2
   have:=cr (Nat.lt_of_le_of_lt h1.2.1 h2)
   omega
  have hw:IntKind.i64.wrap ((bl (ah A):Int)+E)=(bl (ah A):Int)+E:=by simp only[IntKind.wrap_i64];omega
  rw[hw]at y
  by_cases L:1024<(bl (ah A):Int)+E
  ·have U:bW (ah A) E=9218868437227405312:=by unfold bW;rw[if_neg z,if_pos L]
   have t:bH (ah A) E=5:=by unfold bH;rw[if_neg z,if_pos L]
   rw[U,t]
   exact qT h l m A.length E _ w G L y
  ·have M:=gd (ah A) E z (by omega)
   obtain⟨l1,l2,l3⟩:=fC (ah A) E
   have N:=(io (ah A) E z).1
   have hN:=FU (ah A) E z
   have X:=(bF (ah A) z).1
   have O:∀d,Below w.heap.size w d→Calls Tryz.prog 185 #[.agg #[.bool h,.slice l A.length m,.int .i64 E],.int .i64 (aK (ah A) E)] d fun e D=>e=.returned (.int .u64 (fi (ah A) E:Nat))∧Below d.heap.size d D:=fun d T=>
    qM h l m A E _ d (I.below T) V K (by omega) (by omega) hN
   have f:max ((bl (ah A):Int)+E-53) (-1074)=aK (ah A) E:=rfl
   have Q:aK (ah A) E+1074=((aK (ah A) E+1074).toNat:Int):=by omega
   have t:bH (ah A) E=if aK (ah A) E≤E then 0 else if bW (ah A) E=9218868437227405312 then 5 else if bW (ah A) E<4503599627370496 then 3 else 1:=by unfold bH;rw[if_neg z,if_neg L]
   by_cases F:aK (ah A) E≤E
   ·rw[t,if_pos F]
    exact qN h l m A.length _ _ _ E _ _ w G (by omega) f Q (by omega) N y O M (decide_eq_true F)
   ·rw[if_neg F]at t
    by_cases Y:bW (ah A) E=9218868437227405312
    ·rw[t,if_pos Y]
     exact qO h l m A.length _ _ _ E _ _ w G (by omega) f Q (by omega) N y O M (decide_eq_false F) (by simp;omega)
    ·rw[if_neg Y]at t
     have H:((bW (ah A) E:Int)==9218868437227405312)=false:=by simp;omega
     by_cases Z:bW (ah A) E<4503599627370496
     ·rw[t,if_pos Z]
      exact qP h l m A.length _ _ _ E _ _ w G (by omega) f Q (by omega) N y O M (decide_eq_false F) H (decide_eq_true (by omega))
     ·rw[t,if_neg Z]
      exact qQ h l m A.length _ _ _ E _ _ w G (by omega) f Q (by omega) N y O M (decide_eq_false F) H (decide_eq_false (by omega))
def b8(neg:Bool)(r:Nat):Nat:=if neg=true then r+9223372036854775808 else r
theorem cC(r:Nat):b8 true r=r+9223372036854775808:=if_pos rfl
theorem aY(r:Nat):b8 false r=r:=if_neg Bool.false_ne_true
theorem yo(r:Nat)(h:r<9223372036854775808):fN r=b8 true r:=by rw[cC];unfold fN;exact if_neg (by omega)
theorem qU(m:Bool)(I:Option Addr)(K:Nat)(A:List Nat)(E:Int)(w:World)(hA:af w I K A)(U:jF m A E=true)(hT:cd w):
  Calls Tryz.prog 140 #[.agg #[.bool m,.slice I A.length K,.int .i64 E]] w fun e D=>e=.returned (.tuple #[.int .u64 (b8 m (bW (ah A) E):Nat),.int .u8 (bH (ah A) E),.int .i64 0])∧Below w.heap.size w D:=by
 have la:=(bQ U).2.1
 have M:=aa (fun D h t=>gY m I K A E D h (by omega) t)
 have he:l8 m A E=0:=by unfold l8;rw[U];rfl
 rw[he]at M
 have V:=aa (fun D h=>nO m I K A E D h U)
 have Z:=ei (ah A) E
 have hn:fN (bW (ah A) E)=b8 true (bW (ah A) E):=yo _ (by omega)
 have CM:=aa (fun D=>fG (bW (ah A) E) D (by omega))
 rw[hn]at CM
 clear he U la
 have z:=aa ((Below.refl w.heap.size w).alloc (Nat.le_refl _) (.cells #[.bool m,.slice I A.length K,.int .i64 E] 110))
 have X:=aa (aB.new w (.bool m) (.slice I A.length K) (.int .i64 E))
 have L:=aa (hA.below (uH z));have Y:=aa (hT.all (uH z))
 have F:b8 false (bW (ah A) E)=bW (ah A) E:=aY _
 clear hA hT Z hn
 generalize bH (ah A) E=fl at*
 generalize bW (ah A) E=R at*
 cases m
 ·rw[F]
  clear CM F
  go_enter Tryz.func140,Tryz.ntmps140
  go_wp2_with fail
  refine(uH M _ (uH L) (uH Y)).mono ?_
  rintro e w1 ⟨rfl,d⟩
  have G:=aa ((uH z).trans (d.mono (uH z).size))
  have l:=(uH X).all d
  have H:=aa ((uH L).below d)
  have N:=l.c0;have O:=l.c1;have Q:=l.c2
  have T:=aa l
  clear d z M L Y X l
  go_wp2_with fail
  refine(uH V _ (uH H)).mono ?_
  rintro e w2 ⟨rfl,f⟩
  have B2:=aa ((uH G).trans (f.mono (uH G).size))
  have y:=(uH T).all f
  clear N O Q
  have N:=y.c0;have O:=y.c1;have Q:=y.c2
  clear f y V G T
  go_wp2
  exact bodyPost_ret (v:=.tuple #[.int .u64 R,.int .u8 fl,.int .i64 0]) (by simp[results,Tryz.results140,go_sem]) rfl ⟨rfl,uH B2⟩
 ·clear F
  generalize b8 true R=R' at*
  go_enter Tryz.func140,Tryz.ntmps140
  go_wp2_with fail
  refine(uH M _ (uH L) (uH Y)).mono ?_
  rintro e w1 ⟨rfl,d⟩
  have G:=aa ((uH z).trans (d.mono (uH z).size))
  have l:=(uH X).all d
  have H:=aa ((uH L).below d)
  have N:=l.c0;have O:=l.c1;have Q:=l.c2
  have T:=aa l
  clear d z M L Y X l
  go_wp2_with fail
  refine(uH V _ (uH H)).mono ?_
  rintro e w2 ⟨rfl,f⟩
  have B2:=aa ((uH G).trans (f.mono (uH G).size))
  have y:=(uH T).all f
  clear N O Q
  have N:=y.c0;have O:=y.c1;have Q:=y.c2
  clear f y V G T
  go_wp2_with(go_at_call 94;refine(uH CM _).mono ?_;rintro e w3 ⟨rfl,rfl⟩)
  exact bodyPost_ret (v:=.tuple #[.int .u64 R',.int .u8 fl,.int .i64 0]) (by simp[results,Tryz.results140,go_sem]) rfl ⟨rfl,uH B2⟩
theorem iy{w:World}{v:Value}{m e:Int}(h:aH w v m e)(l:m.natAbs<di)(t:pq m e=true)(y:cd w):
  Calls Tryz.prog 140 #[v] w fun r z=>r=.returned (.tuple #[.int .u64 (b8 (decide (m<0)) (bW m.natAbs e):Nat),.int .u8 (bH m.natAbs e),.int .i64 0])∧Below w.heap.size w z:=by
 obtain⟨n,a,c,L,rfl,D,I,F,K,G⟩:=h.right l
 have d:n=decide (m<0):=by
  obtain⟨M,N,O,Q,f,_,_,H,_⟩:=h.parts
  simp only[Value.agg.injEq,Array.mk.injEq,List.cons.injEq,Value.bool.injEq]at f
  rw[f.1];exact H
 have A:ah L=m.natAbs:=by rw[←F,aS]
 have:=qU n a c L e w D (G.trans t) y
 rw[A,d]at this
 rw[d]
 exact this
theorem Eu(b:Nat):(fM b).natAbs=fA b:=by unfold fM sg;split<;>simp
theorem Ev(b:Nat)(d:aD b=true):fP b<2047:=by
 have:=lK b
 unfold aD at d
 simp at d
 omega
theorem yp(b:Nat)(z:aD b=true):bW (fA b) (fE b)=b%9223372036854775808∧aK (fA b) (fE b)=fE b∧(bl (fA b):Int)+fE b≤1024:=by
 have G:=Ev b z
 have A:b%9223372036854775808=fF b+fP b*4503599627370496:=by unfold fF fP;omega
 have D:=qn b
 rw[A]
 by_cases h:fP b=0
 ·have m:fA b=fF b:=by unfold fA;rw[if_pos h]
  have t:fE b= -1074:=by unfold fE;rw[if_pos h]
  rw[m,t,h]
  generalize fF b=f at*
  by_cases y:f=0
  ·subst y
   exact⟨by simp[bW],by decide,by decide⟩
  ·obtain⟨H,I,K⟩:=bF f y
   have d:bl f≤52:=by
    have F:(2:Nat)^(bl f-1)<2^52:=by rw[FQ];omega
    have:=cr F
    omega
   have l:aK f (-1074)= -1074:=by unfold aK;omega
   refine⟨?_,l,by omega⟩
   rw[gd f _ y (by omega)]
   unfold fi
   rw[l]
   have:=ji f 0
   simp at this
   simp[this]
 ·have m:fA b=fF b+4503599627370496:=by unfold fA;rw[if_neg h]
  have t:fE b=(fP b:Int)-1075:=by unfold fE;rw[if_neg h]
  rw[m,t]
  generalize fF b=f at*
  generalize fP b=p at*
  have d:bl (f+4503599627370496)=53:=ov (by decide) (by show 2^52≤_;rw[FQ];omega) (by rw[xH];omega)
  have l:aK (f+4503599627370496) ((p:Int)-1075)=(p:Int)-1075:=by unfold aK;rw[d];omega
  refine⟨?_,l,by rw[d];omega⟩
  rw[gd _ _ (by omega) (by rw[d];omega)]
  unfold fi
  rw[l]
  have:=ji (f+4503599627370496) 0
  simp at this
  rw[show(p:Int)-1075-((p:Int)-1075)=0 by omega,this]
  omega
theorem yq(z:Int)(h:z≠0):z.natAbs=(oM z).natAbs*2^tz z.natAbs:=by
 have f:=(fg z h).1
 have d:=congrArg Int.natAbs f
 rw[Int.natAbs_mul,Int.natAbs_pow]at d
 exact d
theorem iX(z:Int):decide (oM z<0)=decide (z<0):=by
 have h:=uC z
 unfold eR at h
 by_cases f:oM z<0
 ·rw[if_pos f]at h
  by_cases d:z<0
  ·rw[decide_eq_true f,decide_eq_true d]
  ·rw[if_neg d]at h
   split at h<;>omega
 ·rw[if_neg f]at h
  by_cases d:z<0
  ·rw[if_pos d]at h
   split at h<;>omega
  ·rw[decide_eq_false f,decide_eq_false d]
theorem iY(z e:Int):bW (oM z).natAbs (oE z e)=bW z.natAbs e∧(z≠0→aK (oM z).natAbs (oE z e)=aK z.natAbs e∧(bl (oM z).natAbs:Int)+oE z e=(bl z.natAbs:Int)+e):=by
 by_cases h:z=0
 ·subst h
  refine⟨by rw[cg];simp[bW],fun h=>absurd rfl h⟩
 ·have l:=yq z h
  have d:(oM z).natAbs≠0:=by have:=(ge z h).1;omega
  rw[dq z e h]
  generalize tz z.natAbs=k at*
  rw[l,dE]
  refine⟨rfl,fun _=>?_⟩
  have f:=jI (oM z).natAbs k d
  refine⟨?_,by rw[f];omega⟩
  unfold aK
  rw[f]
  congr 1
  omega
end Go.Proofs.YtenpggicmfhhdaaGreatDoor
namespace Go.Proofs.YtenpggicmfhhdaaGreatDoor
theorem kw(n:Bool)(s:Nat)(h:s<9223372036854775808):fS (b8 n s)=n:=by
 unfold fS
 cases n
 ·rw[aY];exact decide_eq_false (by omega)
 ·rw[cC];exact decide_eq_true (by omega)
theorem Ew(n:Bool)(s:Nat)(h:s<9223372036854775808):fP (b8 n s)=s/4503599627370496:=by
 unfold fP
 cases n
 ·rw[aY];omega
 ·rw[cC];omega
theorem Ex(n:Bool)(s:Nat)(_h:s<9223372036854775808):fF (b8 n s)=s%4503599627370496:=by
 unfold fF
 cases n
 ·rw[aY]
 ·rw[cC];omega
theorem Ey(n:Bool)(s:Nat)(h:s<9218868437227405312):∃j:Nat,fE (b8 n s)= -1074+(j:Int)∧fM (b8 n s)*2^j=sg n (rv s):=by
 have f:=Ew n s (by omega)
 have l:=Ex n s (by omega)
 have t:=kw n s (by omega)
 unfold fM fE fA rv
 rw[f,l,t]
 by_cases d:s<4503599627370496
 ·rw[if_pos (by omega),if_pos (by omega),if_pos d]
  refine⟨0,by simp,?_⟩
  rw[Nat.mod_eq_of_lt d]
  simp
 ·rw[if_neg (by omega),if_neg (by omega),if_neg d]
  refine⟨s/4503599627370496-1,by omega,?_⟩
  rw[Nat.add_comm 4503599627370496]
  generalize s%4503599627370496+4503599627370496=m
  generalize s/4503599627370496-1=j
  unfold sg
  cases n
  ·simp
  ·simp[Int.neg_mul]
end Go.Proofs.YtenpggicmfhhdaaGreatDoor
