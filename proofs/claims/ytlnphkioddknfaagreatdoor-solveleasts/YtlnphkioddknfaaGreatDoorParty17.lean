/- Part 17 of the texts. -/
import Derived.Test.YtlnphkioddknfaaGreatDoorParty16
set_option maxHeartbeats 4000000
namespace Go.Proofs.YtlnphkioddknfaaGreatDoor
open Go.RowKit
theorem I5(v:Nat)(E:Int)(h:v≠0):pN v (E-aJ v E)<1152921504606846976:=by
 obtain⟨z,A,D⟩:=gd v E
 obtain⟨F,G,m⟩:=bK v h
 generalize aJ v E=l at*
 have t:(2:Nat)^54<1152921504606846976:=by decide
 unfold pN
 split
 ·obtain⟨k,f⟩:=Int.eq_ofNat_of_zero_le (show 0≤E-l+1 by omega)
  rw[f,Int.toNat_natCast]
  have d:v*2^k<2^bl v*2^k:=Nat.mul_lt_mul_of_pos_right m (Nat.two_pow_pos _)
  rw[←Nat.pow_add]at d
  have y:(2:Nat)^(bl v+k)≤2^54:=e9 (by omega)
  omega
 ·obtain⟨k,f⟩:=Int.eq_ofNat_of_zero_le (show 0≤-(E-l+1) by omega)
  rw[f,Int.toNat_natCast]
  have d:v<2^54*2^k:=by
   rw[←Nat.pow_add]
   exact Nat.lt_of_lt_of_le m (e9 (by omega))
  have y:v/2^k<2^54:=Nat.div_lt_of_lt_mul (by rw[Nat.mul_comm];exact d)
  omega
theorem jg(P:Program)(w:World)(d:Array TypeId)(t:TypeId)(x y:Int):(Builtin.max_ d t #[.int .i64 x,.int .i64 y]).run P w=.ok (.int .i64 (max x y)) w:=by
 rw[run_max_int2]
 congr 2
 split<;>omega
theorem sj(z:Bool)(ao:Option Addr)(A l M k R:Nat)(E t d:Int)(w:World)(N:0<l)(ht:-100000≤t∧t≤1024)(O:max (t-53) (-1074)=d)(hk:d+1074=k)(K:k≤2045)(hM:M≤9007199254740992)
  (Q:∀f,Below w.heap.size w f→Calls Tryz.prog 254 #[.agg #[.bool z,.slice ao l A,.int .i64 E]] f fun e h=>e=.returned (.int .i64 t)∧Below f.heap.size f h)
  (U:∀f,Below w.heap.size w f→Calls Tryz.prog 255 #[.agg #[.bool z,.slice ao l A,.int .i64 E],.int .i64 d] f fun e h=>e=.returned (.int .u64 M)∧Below f.heap.size f h)
  (hR:R=M+k*4503599627370496) (g1:decide (d≤E)=true):
  Calls Tryz.prog 233 #[.agg #[.bool z,.slice ao l A,.int .i64 E]] w fun e f=>e=.returned (.tuple #[.int .u64 R,.int .u8 0])∧Below w.heap.size w f:=by
 have L:decide (0<l)=true:=decide_eq_true N
 have hz:((l:Int)==0)=false:=by simp;omega
 have V:=fun W ts t'=>jg Tryz.prog W ts t' (t-53) (-1074)
 rw[O]at V
 have X:=aa Q;have Y:=aa U
 have hg:decide ((1024:Int)<t)=false:=decide_eq_false (by omega)
 have w1:IntKind.i64.wrap (t-53)=t-53:=by simp only[IntKind.wrap_i64];omega
 have w2:IntKind.i64.wrap (d- -1074)=(k:Int):=by simp only[IntKind.wrap_i64];omega
 have w3:IntKind.u64.wrap (k:Int)=(k:Int):=by simp only[IntKind.wrap_u64];omega
 have D:=aa (show(M:Int)+(k:Int)*4503599627370496=(R:Int) by omega)
 clear Q U O hR
 have G:=aa ((Below.refl w.heap.size w).alloc (Nat.le_refl _) (.cells #[.bool z,.slice ao l A,.int .i64 E] 47))
 have Z:=aa (az.new w (.bool z) (.slice ao l A) (.int .i64 E))
 go_enter Tryz.func233,Tryz.ntmps233
 go_wp2_with fail
 refine(uH X _ (uH G)).mono ?_
 rintro e ae ⟨rfl,m⟩
 have F:=(uH Z).all m
 have H:=aa ((uH G).trans (m.mono (uH G).size))
 have X1:=aa F
 have y0:=F.c0;have y1:=F.c1;have y2:=F.c2
 clear m F X G Z
 go_wp2_with fail
 refine(uH Y _ (uH H)).mono ?_
 rintro e aj ⟨rfl,y⟩
 have I:=(uH X1).all y
 have B2:=aa ((uH H).trans (y.mono (uH H).size))
 clear y0 y1 y2
 have y0:=I.c0;have y1:=I.c1;have y2:=I.c2
 clear y I Y H X1
 go_upto_region 8 with(fail)
 rw[uH D]
 clear V w1 w2 w3 hk K hM D N L hz hg ht
 go_wp2
 exact bodyPost_ret (v:=.tuple #[.int .u64 R,.int .u8 0]) (by simp[results,Tryz.results233,go_sem]) rfl ⟨rfl,uH B2⟩
theorem sl(z:Bool)(ao:Option Addr)(A l M k R:Nat)(E t d:Int)(w:World)(N:0<l)(ht:-100000≤t∧t≤1024)(O:max (t-53) (-1074)=d)(hk:d+1074=k)(K:k≤2045)(hM:M≤9007199254740992)
  (Q:∀f,Below w.heap.size w f→Calls Tryz.prog 254 #[.agg #[.bool z,.slice ao l A,.int .i64 E]] f fun e h=>e=.returned (.int .i64 t)∧Below f.heap.size f h)
  (U:∀f,Below w.heap.size w f→Calls Tryz.prog 255 #[.agg #[.bool z,.slice ao l A,.int .i64 E],.int .i64 d] f fun e h=>e=.returned (.int .u64 M)∧Below f.heap.size f h)
  (hR:R=M+k*4503599627370496) (g1:decide (d≤E)=false) (g2:((R:Int)==9218868437227405312)=true):
  Calls Tryz.prog 233 #[.agg #[.bool z,.slice ao l A,.int .i64 E]] w fun e f=>e=.returned (.tuple #[.int .u64 R,.int .u8 5])∧Below w.heap.size w f:=by
 have L:decide (0<l)=true:=decide_eq_true N
 have hz:((l:Int)==0)=false:=by simp;omega
 have V:=fun W ts t'=>jg Tryz.prog W ts t' (t-53) (-1074)
 rw[O]at V
 have X:=aa Q;have Y:=aa U
 have hg:decide ((1024:Int)<t)=false:=decide_eq_false (by omega)
 have w1:IntKind.i64.wrap (t-53)=t-53:=by simp only[IntKind.wrap_i64];omega
 have w2:IntKind.i64.wrap (d- -1074)=(k:Int):=by simp only[IntKind.wrap_i64];omega
 have w3:IntKind.u64.wrap (k:Int)=(k:Int):=by simp only[IntKind.wrap_u64];omega
 have D:=aa (show(M:Int)+(k:Int)*4503599627370496=(R:Int) by omega)
 clear Q U O hR
 have G:=aa ((Below.refl w.heap.size w).alloc (Nat.le_refl _) (.cells #[.bool z,.slice ao l A,.int .i64 E] 47))
 have Z:=aa (az.new w (.bool z) (.slice ao l A) (.int .i64 E))
 go_enter Tryz.func233,Tryz.ntmps233
 go_wp2_with fail
 refine(uH X _ (uH G)).mono ?_
 rintro e ae ⟨rfl,m⟩
 have F:=(uH Z).all m
 have H:=aa ((uH G).trans (m.mono (uH G).size))
 have X1:=aa F
 have y0:=F.c0;have y1:=F.c1;have y2:=F.c2
 clear m F X G Z
 go_wp2_with fail
 refine(uH Y _ (uH H)).mono ?_
 rintro e aj ⟨rfl,y⟩
 have I:=(uH X1).all y
 have B2:=aa ((uH H).trans (y.mono (uH H).size))
 clear y0 y1 y2
 have y0:=I.c0;have y1:=I.c1;have y2:=I.c2
 clear y I Y H X1
 go_upto_region 8 with(fail)
 rw[uH D]
 clear V w1 w2 w3 hk K hM D N L hz hg ht
 go_wp2
 exact bodyPost_ret (v:=.tuple #[.int .u64 R,.int .u8 5]) (by simp[results,Tryz.results233,go_sem]) rfl ⟨rfl,uH B2⟩
theorem sr(z:Bool)(ao:Option Addr)(A l M k R:Nat)(E t d:Int)(w:World)(N:0<l)(ht:-100000≤t∧t≤1024)(O:max (t-53) (-1074)=d)(hk:d+1074=k)(K:k≤2045)(hM:M≤9007199254740992)
  (Q:∀f,Below w.heap.size w f→Calls Tryz.prog 254 #[.agg #[.bool z,.slice ao l A,.int .i64 E]] f fun e h=>e=.returned (.int .i64 t)∧Below f.heap.size f h)
  (U:∀f,Below w.heap.size w f→Calls Tryz.prog 255 #[.agg #[.bool z,.slice ao l A,.int .i64 E],.int .i64 d] f fun e h=>e=.returned (.int .u64 M)∧Below f.heap.size f h)
  (hR:R=M+k*4503599627370496) (g1:decide (d≤E)=false) (g2:((R:Int)==9218868437227405312)=false) (g3:decide ((R:Int)<4503599627370496)=true):
  Calls Tryz.prog 233 #[.agg #[.bool z,.slice ao l A,.int .i64 E]] w fun e f=>e=.returned (.tuple #[.int .u64 R,.int .u8 3])∧Below w.heap.size w f:=by
 have L:decide (0<l)=true:=decide_eq_true N
 have hz:((l:Int)==0)=false:=by simp;omega
 have V:=fun W ts t'=>jg Tryz.prog W ts t' (t-53) (-1074)
 rw[O]at V
 have X:=aa Q;have Y:=aa U
 have hg:decide ((1024:Int)<t)=false:=decide_eq_false (by omega)
 have w1:IntKind.i64.wrap (t-53)=t-53:=by simp only[IntKind.wrap_i64];omega
 have w2:IntKind.i64.wrap (d- -1074)=(k:Int):=by simp only[IntKind.wrap_i64];omega
 have w3:IntKind.u64.wrap (k:Int)=(k:Int):=by simp only[IntKind.wrap_u64];omega
 have D:=aa (show(M:Int)+(k:Int)*4503599627370496=(R:Int) by omega)
 clear Q U O hR
 have G:=aa ((Below.refl w.heap.size w).alloc (Nat.le_refl _) (.cells #[.bool z,.slice ao l A,.int .i64 E] 47))
 have Z:=aa (az.new w (.bool z) (.slice ao l A) (.int .i64 E))
 go_enter Tryz.func233,Tryz.ntmps233
 go_wp2_with fail
 refine(uH X _ (uH G)).mono ?_
 rintro e ae ⟨rfl,m⟩
 have F:=(uH Z).all m
 have H:=aa ((uH G).trans (m.mono (uH G).size))
 have X1:=aa F
 have y0:=F.c0;have y1:=F.c1;have y2:=F.c2
 clear m F X G Z
 go_wp2_with fail
 refine(uH Y _ (uH H)).mono ?_
 rintro e aj ⟨rfl,y⟩
 have I:=(uH X1).all y
 have B2:=aa ((uH H).trans (y.mono (uH H).size))
 clear y0 y1 y2
 have y0:=I.c0;have y1:=I.c1;have y2:=I.c2
 clear y I Y H X1
 go_upto_region 8 with(fail)
 rw[uH D]
 clear V w1 w2 w3 hk K hM D N L hz hg ht
 go_wp2
 exact bodyPost_ret (v:=.tuple #[.int .u64 R,.int .u8 3]) (by simp[results,Tryz.results233,go_sem]) rfl ⟨rfl,uH B2⟩
theorem su(z:Bool)(ao:Option Addr)(A l M k R:Nat)(E t d:Int)(w:World)(N:0<l)(ht:-100000≤t∧t≤1024)(O:max (t-53) (-1074)=d)(hk:d+1074=k)(K:k≤2045)(hM:M≤9007199254740992)
  (Q:∀f,Below w.heap.size w f→Calls Tryz.prog 254 #[.agg #[.bool z,.slice ao l A,.int .i64 E]] f fun e h=>e=.returned (.int .i64 t)∧Below f.heap.size f h)
  (U:∀f,Below w.heap.size w f→Calls Tryz.prog 255 #[.agg #[.bool z,.slice ao l A,.int .i64 E],.int .i64 d] f fun e h=>e=.returned (.int .u64 M)∧Below f.heap.size f h)
  (hR:R=M+k*4503599627370496) (g1:decide (d≤E)=false) (g2:((R:Int)==9218868437227405312)=false) (g3:decide ((R:Int)<4503599627370496)=false):
  Calls Tryz.prog 233 #[.agg #[.bool z,.slice ao l A,.int .i64 E]] w fun e f=>e=.returned (.tuple #[.int .u64 R,.int .u8 1])∧Below w.heap.size w f:=by
 have L:decide (0<l)=true:=decide_eq_true N
 have hz:((l:Int)==0)=false:=by simp;omega
 have V:=fun W ts t'=>jg Tryz.prog W ts t' (t-53) (-1074)
 rw[O]at V
 have X:=aa Q;have Y:=aa U
 have hg:decide ((1024:Int)<t)=false:=decide_eq_false (by omega)
 have w1:IntKind.i64.wrap (t-53)=t-53:=by simp only[IntKind.wrap_i64];omega
 have w2:IntKind.i64.wrap (d- -1074)=(k:Int):=by simp only[IntKind.wrap_i64];omega
 have w3:IntKind.u64.wrap (k:Int)=(k:Int):=by simp only[IntKind.wrap_u64];omega
 have D:=aa (show(M:Int)+(k:Int)*4503599627370496=(R:Int) by omega)
 clear Q U O hR
 have G:=aa ((Below.refl w.heap.size w).alloc (Nat.le_refl _) (.cells #[.bool z,.slice ao l A,.int .i64 E] 47))
 have Z:=aa (az.new w (.bool z) (.slice ao l A) (.int .i64 E))
 go_enter Tryz.func233,Tryz.ntmps233
 go_wp2_with fail
 refine(uH X _ (uH G)).mono ?_
 rintro e ae ⟨rfl,m⟩
 have F:=(uH Z).all m
 have H:=aa ((uH G).trans (m.mono (uH G).size))
 have X1:=aa F
 have y0:=F.c0;have y1:=F.c1;have y2:=F.c2
 clear m F X G Z
 go_wp2_with fail
 refine(uH Y _ (uH H)).mono ?_
 rintro e aj ⟨rfl,y⟩
 have I:=(uH X1).all y
 have B2:=aa ((uH H).trans (y.mono (uH H).size))
 clear y0 y1 y2
 have y0:=I.c0;have y1:=I.c1;have y2:=I.c2
 clear y I Y H X1
 go_upto_region 8 with(fail)
 rw[uH D]
 clear V w1 w2 w3 hk K hM D N L hz hg ht
 go_wp2
 exact bodyPost_ret (v:=.tuple #[.int .u64 R,.int .u8 1]) (by simp[results,Tryz.results233,go_sem]) rfl ⟨rfl,uH B2⟩
theorem sw(h:Bool)(ao:Option Addr)(l:Nat)(E t:Int)(w:World)
  (A:∀f,Below w.heap.size w f→Calls Tryz.prog 254 #[.agg #[.bool h,.slice ao 0 l,.int .i64 E]] f fun e z=>e=.returned (.int .i64 t)∧Below f.heap.size f z):
  Calls Tryz.prog 233 #[.agg #[.bool h,.slice ao 0 l,.int .i64 E]] w fun e f=>e=.returned (.tuple #[.int .u64 0,.int .u8 0])∧Below w.heap.size w f:=by
 have D:=aa A
 clear A
 have m:=aa ((Below.refl w.heap.size w).alloc (Nat.le_refl _) (.cells #[.bool h,.slice ao 0 l,.int .i64 E] 47))
 have F:=aa (az.new w (.bool h) (.slice ao 0 l) (.int .i64 E))
 go_enter Tryz.func233,Tryz.ntmps233
 go_wp2_with fail
 refine(uH D _ (uH m)).mono ?_
 rintro e H ⟨rfl,d⟩
 have y:=(uH F).all d
 have G:=aa ((uH m).trans (d.mono (uH m).size))
 have I:=y.c0;have K:=y.c1;have L:=y.c2
 clear d y D m F
 go_wp2
 exact bodyPost_ret (v:=.tuple #[.int .u64 0,.int .u8 0]) (by simp[results,Tryz.results233,go_sem]) rfl ⟨rfl,uH G⟩
theorem sz(h:Bool)(ao:Option Addr)(m l:Nat)(E t:Int)(w:World)(I:0<l)(D:1024<t)
  (F:∀f,Below w.heap.size w f→Calls Tryz.prog 254 #[.agg #[.bool h,.slice ao l m,.int .i64 E]] f fun e A=>e=.returned (.int .i64 t)∧Below f.heap.size f A):
  Calls Tryz.prog 233 #[.agg #[.bool h,.slice ao l m,.int .i64 E]] w fun e f=>e=.returned (.tuple #[.int .u64 9218868437227405312,.int .u8 5])∧Below w.heap.size w f:=by
 have K:decide (0<l)=true:=decide_eq_true I
 have N:((l:Int)==0)=false:=by simp;omega
 have O:decide ((1024:Int)<t)=true:=decide_eq_true D
 have G:=aa F
 clear F D
 have y:=aa ((Below.refl w.heap.size w).alloc (Nat.le_refl _) (.cells #[.bool h,.slice ao l m,.int .i64 E] 47))
 have H:=aa (az.new w (.bool h) (.slice ao l m) (.int .i64 E))
 go_enter Tryz.func233,Tryz.ntmps233
 go_wp2_with fail
 refine(uH G _ (uH y)).mono ?_
 rintro e M ⟨rfl,d⟩
 have z:=(uH H).all d
 have L:=aa ((uH y).trans (d.mono (uH y).size))
 have Q:=z.c0;have U:=z.c1;have V:=z.c2
 clear d z G y H
 go_wp2
 exact bodyPost_ret (v:=.tuple #[.int .u64 9218868437227405312,.int .u8 5]) (by simp[results,Tryz.results233,go_sem]) rfl ⟨rfl,uH L⟩
theorem GU{n:Bool}{L:List Nat}(d:av n L=true)(f:L≠ []):an L≠0:=fun h=>f ((aL L (ay d).2.1).1 h)
theorem oV(h:Bool)(ao:Option Addr)(l:Nat)(A:List Nat)(E:Int)(w:World)(H:ag w ao l A)(V:kn h A E=true):
  Calls Tryz.prog 233 #[.agg #[.bool h,.slice ao A.length l,.int .i64 E]] w fun e d=>e=.returned (.tuple #[.int .u64 (bX (an A) E:Nat),.int .u8 (bM (an A) E)])∧Below w.heap.size w d:=by
 obtain⟨d1,d2,d3,d4,d5⟩:=bT V
 have t:∀d,Below w.heap.size w d→Calls Tryz.prog 254 #[.agg #[.bool h,.slice ao A.length l,.int .i64 E]] d fun e z=>e=.returned (.int .i64 (IntKind.i64.wrap (dD A+E)))∧Below d.heap.size d z:=fun d Q=>kx h ao l A E d (H.below Q) (by omega)
 rw[iN H.2.1 d1]at t
 by_cases I:A= []
 ·subst I
  have U:bX (an []) E=0:=by simp[bX,an]
  have m:bM (an []) E=0:=by simp[bM,an]
  rw[U,m]
  exact sw h ao l E _ w t
 ·have y:=GU d1 I
  have F:0<A.length:=List.length_pos_iff.2 I
  have ae:bl (an A)≤16384:=by
   have h1:=bK (an A) y
   have h2:=uN A H.2.1 512 d2
   have:=cF (Nat.lt_of_le_of_lt h1.2.1 h2)
   omega
  have hw:IntKind.i64.wrap ((bl (an A):Int)+E)=(bl (an A):Int)+E:=by simp only[IntKind.wrap_i64];omega
  rw[hw]at t
  by_cases K:1024<(bl (an A):Int)+E
  ·have U:bX (an A) E=9218868437227405312:=by unfold bX;rw[if_neg y,if_pos K]
   have m:bM (an A) E=5:=by unfold bM;rw[if_neg y,if_pos K]
   rw[U,m]
   exact sz h ao l A.length E _ w F K t
  ·have L:=gI (an A) E y (by omega)
   obtain⟨l1,l2,l3⟩:=gd (an A) E
   have M:=(jb (an A) E y).1
   have hN:=I5 (an A) E y
   have X:=(bK (an A) y).1
   have N:∀d,Below w.heap.size w d→Calls Tryz.prog 255 #[.agg #[.bool h,.slice ao A.length l,.int .i64 E],.int .i64 (aJ (an A) E)] d fun e z=>e=.returned (.int .u64 (fL (an A) E:Nat))∧Below d.heap.size d z:=fun d Q=>
    si h ao l A E _ d (H.below Q) V I (by omega) (by omega) hN
   have f:max ((bl (an A):Int)+E-53) (-1074)=aJ (an A) E:=rfl
   have O:aJ (an A) E+1074=((aJ (an A) E+1074).toNat:Int):=by omega
   have m:bM (an A) E=if aJ (an A) E≤E then 0 else if bX (an A) E=9218868437227405312 then 5 else if bX (an A) E<4503599627370496 then 3 else 1:=by unfold bM;rw[if_neg y,if_neg K]
   by_cases D:aJ (an A) E≤E
   ·rw[m,if_pos D]
    exact sj h ao l A.length _ _ _ E _ _ w F (by omega) f O (by omega) M t N L (decide_eq_true D)
   ·rw[if_neg D]at m
    by_cases Y:bX (an A) E=9218868437227405312
    ·rw[m,if_pos Y]
     exact sl h ao l A.length _ _ _ E _ _ w F (by omega) f O (by omega) M t N L (decide_eq_false D) (by simp;omega)
    ·rw[if_neg Y]at m
     have G:((bX (an A) E:Int)==9218868437227405312)=false:=by simp;omega
     by_cases Z:bX (an A) E<4503599627370496
     ·rw[m,if_pos Z]
      exact sr h ao l A.length _ _ _ E _ _ w F (by omega) f O (by omega) M t N L (decide_eq_false D) G (decide_eq_true (by omega))
     ·rw[m,if_neg Z]
      exact su h ao l A.length _ _ _ E _ _ w F (by omega) f O (by omega) M t N L (decide_eq_false D) G (decide_eq_false (by omega))
def cr(neg:Bool)(r:Nat):Nat:=if neg=true then r+9223372036854775808 else r
theorem cI(r:Nat):cr true r=r+9223372036854775808:=if_pos rfl
theorem a8(r:Nat):cr false r=r:=if_neg Bool.false_ne_true
theorem AL(r:Nat)(h:r<9223372036854775808):fN r=cr true r:=by rw[cI];unfold fN;exact if_neg (by omega)
theorem sC(m:Bool)(ao:Option Addr)(I:Nat)(A:List Nat)(E:Int)(w:World)(hA:ag w ao I A)(U:kn m A E=true)(hT:b7 w):
  Calls Tryz.prog 205 #[.agg #[.bool m,.slice ao A.length I,.int .i64 E]] w fun e D=>e=.returned (.tuple #[.int .u64 (cr m (bX (an A) E):Nat),.int .u8 (bM (an A) E),.int .i64 0])∧Below w.heap.size w D:=by
 have la:=(bT U).2.1
 have L:=aa (fun D h t=>iI m ao I A E D h (by omega) t)
 have he:m7 m A E=0:=by unfold m7;rw[U];rfl
 rw[he]at L
 have V:=aa (fun D h=>oV m ao I A E D h U)
 have Z:=eM (an A) E
 have hn:fN (bX (an A) E)=cr true (bX (an A) E):=AL _ (by omega)
 have CM:=aa (fun D=>ge (bX (an A) E) D (by omega))
 rw[hn]at CM
 clear he U la
 have z:=aa ((Below.refl w.heap.size w).alloc (Nat.le_refl _) (.cells #[.bool m,.slice ao A.length I,.int .i64 E] 47))
 have X:=aa (az.new w (.bool m) (.slice ao A.length I) (.int .i64 E))
 have K:=aa (hA.below (uH z));have Y:=aa (hT.all (uH z))
 have F:cr false (bX (an A) E)=bX (an A) E:=a8 _
 clear hA hT Z hn
 generalize bM (an A) E=fl at*
 generalize bX (an A) E=R at*
 cases m
 ·rw[F]
  clear CM F
  go_enter Tryz.func205,Tryz.ntmps205
  go_wp2_with fail
  refine(uH L _ (uH K) (uH Y)).mono ?_
  rintro e w1 ⟨rfl,d⟩
  have G:=aa ((uH z).trans (d.mono (uH z).size))
  have l:=(uH X).all d
  have H:=aa ((uH K).below d)
  have M:=l.c0;have N:=l.c1;have O:=l.c2
  have Q:=aa l
  clear d z L K Y X l
  go_wp2_with fail
  refine(uH V _ (uH H)).mono ?_
  rintro e w2 ⟨rfl,f⟩
  have B2:=aa ((uH G).trans (f.mono (uH G).size))
  have y:=(uH Q).all f
  clear M N O
  have M:=y.c0;have N:=y.c1;have O:=y.c2
  clear f y V G Q
  go_wp2
  exact bodyPost_ret (v:=.tuple #[.int .u64 R,.int .u8 fl,.int .i64 0]) (by simp[results,Tryz.results205,go_sem]) rfl ⟨rfl,uH B2⟩
 ·clear F
  generalize cr true R=R' at*
  go_enter Tryz.func205,Tryz.ntmps205
  go_wp2_with fail
  refine(uH L _ (uH K) (uH Y)).mono ?_
  rintro e w1 ⟨rfl,d⟩
  have G:=aa ((uH z).trans (d.mono (uH z).size))
  have l:=(uH X).all d
  have H:=aa ((uH K).below d)
  have M:=l.c0;have N:=l.c1;have O:=l.c2
  have Q:=aa l
  clear d z L K Y X l
  go_wp2_with fail
  refine(uH V _ (uH H)).mono ?_
  rintro e w2 ⟨rfl,f⟩
  have B2:=aa ((uH G).trans (f.mono (uH G).size))
  have y:=(uH Q).all f
  clear M N O
  have M:=y.c0;have N:=y.c1;have O:=y.c2
  clear f y V G Q
  go_wp2_with(go_at_call 119;refine(uH CM _).mono ?_;rintro e w3 ⟨rfl,rfl⟩)
  exact bodyPost_ret (v:=.tuple #[.int .u64 R',.int .u8 fl,.int .i64 0]) (by simp[results,Tryz.results205,go_sem]) rfl ⟨rfl,uH B2⟩
theorem jh{w:World}{v:Value}{m e:Int}(h:aG w v m e)(l:m.natAbs<dy)(t:qz m e=true)(y:b7 w):
  Calls Tryz.prog 205 #[v] w fun r z=>r=.returned (.tuple #[.int .u64 (cr (decide (m<0)) (bX m.natAbs e):Nat),.int .u8 (bM m.natAbs e),.int .i64 0])∧Below w.heap.size w z:=by
 obtain⟨n,a,c,L,rfl,D,I,F,K,G⟩:=h.right l
 have d:n=decide (m<0):=by
  obtain⟨M,N,O,Q,f,_,_,H,_⟩:=h.parts
  simp only[Value.agg.injEq,Array.mk.injEq,List.cons.injEq,Value.bool.injEq]at f
  rw[f.1];exact H
 have A:an L=m.natAbs:=by rw[←F,aR]
 have:=sC n a c L e w D (G.trans t) y
 rw[A,d]at this
 rw[d]
 exact this
theorem GV(b:Nat):(fM b).natAbs=fA b:=by unfold fM sg;split<;>simp
theorem GW(b:Nat)(d:aC b=true):fP b<2047:=by
 have:=mQ b
 unfold aC at d
 simp at d
 omega
theorem AM(b:Nat)(z:aC b=true):bX (fA b) (fE b)=b%9223372036854775808∧aJ (fA b) (fE b)=fE b∧(bl (fA b):Int)+fE b≤1024:=by
 have G:=GW b z
 have A:b%9223372036854775808=fF b+fP b*4503599627370496:=by unfold fF fP;omega
 have D:=rM b
 rw[A]
 by_cases h:fP b=0
 ·have m:fA b=fF b:=by unfold fA;rw[if_pos h]
  have t:fE b= -1074:=by unfold fE;rw[if_pos h]
  rw[m,t,h]
  generalize fF b=f at*
  by_cases y:f=0
  ·subst y
   exact⟨by simp[bX],by decide,by decide⟩
  ·obtain⟨H,I,K⟩:=bK f y
   have d:bl f≤52:=by
    have F:(2:Nat)^(bl f-1)<2^52:=by rw[IX];omega
    have:=cF F
    omega
   have l:aJ f (-1074)= -1074:=by unfold aJ;omega
   refine⟨?_,l,by omega⟩
   rw[gI f _ y (by omega)]
   unfold fL
   rw[l]
   have:=jQ f 0
   simp at this
   simp[this]
 ·have m:fA b=fF b+4503599627370496:=by unfold fA;rw[if_neg h]
  have t:fE b=(fP b:Int)-1075:=by unfold fE;rw[if_neg h]
  rw[m,t]
  generalize fF b=f at*
  generalize fP b=p at*
  have d:bl (f+4503599627370496)=53:=pq (by decide) (by show 2^52≤_;rw[IX];omega) (by rw[Ah];omega)
  have l:aJ (f+4503599627370496) ((p:Int)-1075)=(p:Int)-1075:=by unfold aJ;rw[d];omega
  refine⟨?_,l,by rw[d];omega⟩
  rw[gI _ _ (by omega) (by rw[d];omega)]
  unfold fL
  rw[l]
  have:=jQ (f+4503599627370496) 0
  simp at this
  rw[show(p:Int)-1075-((p:Int)-1075)=0 by omega,this]
  omega
theorem AN(z:Int)(h:z≠0):z.natAbs=(oM z).natAbs*2^tz z.natAbs:=by
 have f:=(fG z h).1
 have d:=congrArg Int.natAbs f
 rw[Int.natAbs_mul,Int.natAbs_pow]at d
 exact d
theorem jF(z:Int):decide (oM z<0)=decide (z<0):=by
 have h:=wM z
 unfold fm at h
 by_cases f:oM z<0
 ·rw[if_pos f]at h
  by_cases d:z<0
  ·rw[decide_eq_true f,decide_eq_true d]
  ·rw[if_neg d]at h
   split at h<;>omega
 ·rw[if_neg f]at h
  by_cases d:z<0
  ·rw[if_pos d]at h
   split at h<;>omega
  ·rw[decide_eq_false f,decide_eq_false d]
theorem jG(z e:Int):bX (oM z).natAbs (oE z e)=bX z.natAbs e∧(z≠0→aJ (oM z).natAbs (oE z e)=aJ z.natAbs e∧(bl (oM z).natAbs:Int)+oE z e=(bl z.natAbs:Int)+e):=by
 by_cases h:z=0
 ·subst h
  refine⟨by rw[cw];simp[bX],fun h=>absurd rfl h⟩
 ·have l:=AN z h
  have d:(oM z).natAbs≠0:=by have:=(gJ z h).1;omega
  rw[dI z e h]
  generalize tz z.natAbs=k at*
  rw[l,dY]
  refine⟨rfl,fun _=>?_⟩
  have f:=ks (oM z).natAbs k d
  refine⟨?_,by rw[f];omega⟩
  unfold aJ
  rw[f]
  congr 1
  omega
end Go.Proofs.YtlnphkioddknfaaGreatDoor
namespace Go.Proofs.YtlnphkioddknfaaGreatDoor
theorem lk(n:Bool)(s:Nat)(h:s<9223372036854775808):fS (cr n s)=n:=by
 unfold fS
 cases n
 ·rw[a8];exact decide_eq_false (by omega)
 ·rw[cI];exact decide_eq_true (by omega)
theorem GX(n:Bool)(s:Nat)(h:s<9223372036854775808):fP (cr n s)=s/4503599627370496:=by
 unfold fP
 cases n
 ·rw[a8];omega
 ·rw[cI];omega
theorem GZ(n:Bool)(s:Nat)(_h:s<9223372036854775808):fF (cr n s)=s%4503599627370496:=by
 unfold fF
 cases n
 ·rw[a8]
 ·rw[cI];omega
theorem G3(n:Bool)(s:Nat)(h:s<9218868437227405312):∃j:Nat,fE (cr n s)= -1074+(j:Int)∧fM (cr n s)*2^j=sg n (rv s):=by
 have f:=GX n s (by omega)
 have l:=GZ n s (by omega)
 have t:=lk n s (by omega)
 unfold fM fE fA rv
 rw[f,l,t]
 by_cases d:s<4503599627370496
 ·rw[if_pos (by omega),if_pos (by omega),if_pos d]
  refine⟨0,by simp,?_⟩
  rw[Nat.mod_eq_of_lt d]
  simp
 ·rw[if_neg (by omega),if_neg (by omega),if_neg d]
  refine⟨s/4503599627370496-1,by omega,?_⟩
  rw[Nat.add_comm 4503599627370496]
  generalize s%4503599627370496+4503599627370496=m
  generalize s/4503599627370496-1=j
  unfold sg
  cases n
  ·simp
  ·simp[Int.neg_mul]
end Go.Proofs.YtlnphkioddknfaaGreatDoor
