/- Part 17 of the texts. -/
import Derived.Test.YtnnfjeieennffaaGreatDoorPartc16
set_option maxHeartbeats 4000000
namespace Go.Proofs.YtnnfjeieennffaaGreatDoor
open Go.RowKit
theorem IW(v:Nat)(E:Int)(h:v≠0):pN v (E-av v E)<1152921504606846976:=by
 obtain⟨A,D,F⟩:=bW v E
 obtain⟨G,H,m⟩:=aY v h
 generalize av v E=l at*
 have t:(2:Nat)^54<1152921504606846976:=by decide
 unfold pN
 split
 ·obtain⟨k,f⟩:=Int.eq_ofNat_of_zero_le (show 0≤E-l+1 by omega)
  rw[f,Int.toNat_natCast]
  have d:v*2^k<2^bl v*2^k:=Nat.mul_lt_mul_of_pos_right m (Nat.two_pow_pos _)
  rw[←Nat.pow_add]at d
  have z:(2:Nat)^(bl v+k)≤2^54:=dP (by omega)
  omega
 ·obtain⟨k,f⟩:=Int.eq_ofNat_of_zero_le (show 0≤-(E-l+1) by omega)
  rw[f,Int.toNat_natCast]
  have d:v<2^54*2^k:=by
   rw[←Nat.pow_add]
   exact Nat.lt_of_lt_of_le m (dP (by omega))
  have z:v/2^k<2^54:=Nat.div_lt_of_lt_mul (by rw[Nat.mul_comm];exact d)
  omega
theorem iV(P:Program)(w:World)(d:Array TypeId)(t:TypeId)(x y:Int):(Builtin.max_ d t #[.int .i64 x,.int .i64 y]).run P w=.ok (.int .i64 (max x y)) w:=by
 rw[run_max_int2]
 congr 2
 split<;>omega
theorem sw(z:Bool)(A:Option Addr)(D l M k R:Nat)(E t d:Int)(w:World)(Q:0<l)(ht:-100000≤t∧t≤1024)(U:max (t-53) (-1074)=d)(hk:d+1074=k)(N:k≤2045)(hM:M≤9007199254740992)
  (V:∀w',Below w.heap.size w w'→Calls Tryz.prog 171 #[.agg #[.bool z,.slice A l D,.int .i64 E]] w' fun e f=>e=.returned (.int .i64 t)∧Below w'.heap.size w' f)
  (X:∀w',Below w.heap.size w w'→Calls Tryz.prog 200 #[.agg #[.bool z,.slice A l D,.int .i64 E],.int .i64 d] w' fun e f=>e=.returned (.int .u64 M)∧Below w'.heap.size w' f)
  (hR:R=M+k*4503599627370496) (g1:decide (d≤E)=true):
  Calls Tryz.prog 184 #[.agg #[.bool z,.slice A l D,.int .i64 E]] w fun e w'=>e=.returned (.tuple #[.int .u64 R,.int .u8 0])∧Below w.heap.size w w':=by
 have O:decide (0<l)=true:=decide_eq_true Q
 have hz:((l:Int)==0)=false:=by simp;omega
 have Y:=fun W ts t'=>iV Tryz.prog W ts t' (t-53) (-1074)
 rw[U]at Y
 have Z:=aa V;have KR:=aa X
 have hg:decide ((1024:Int)<t)=false:=decide_eq_false (by omega)
 have w1:IntKind.i64.wrap (t-53)=t-53:=by simp only[IntKind.wrap_i64];omega
 have w2:IntKind.i64.wrap (d- -1074)=(k:Int):=by simp only[IntKind.wrap_i64];omega
 have w3:IntKind.u64.wrap (k:Int)=(k:Int):=by simp only[IntKind.wrap_u64];omega
 have F:=aa (show(M:Int)+(k:Int)*4503599627370496=(R:Int) by omega)
 clear V X U hR
 have H:=aa ((Below.refl w.heap.size w).alloc (Nat.le_refl _) (.cells #[.bool z,.slice A l D,.int .i64 E] 52))
 have X0:=aa (aB.new w (.bool z) (.slice A l D) (.int .i64 E))
 go_enter Tryz.func184,Tryz.ntmps184
 go_wp2_with fail
 refine(uH Z _ (uH H)).mono ?_
 rintro e ae ⟨rfl,h⟩
 have G:=(uH X0).all h
 have K:=aa ((uH H).trans (h.mono (uH H).size))
 have X1:=aa G
 have y0:=G.c0;have y1:=G.c1;have y2:=G.c2
 clear h G Z H X0
 go_wp2_with fail
 refine(uH KR _ (uH K)).mono ?_
 rintro e aj ⟨rfl,m⟩
 have L:=(uH X1).all m
 have B2:=aa ((uH K).trans (m.mono (uH K).size))
 clear y0 y1 y2
 have y0:=L.c0;have y1:=L.c1;have y2:=L.c2
 clear m L KR K X1
 go_upto_region 8 with(fail)
 rw[uH F]
 clear Y w1 w2 w3 hk N hM F Q O hz hg ht
 go_wp2
 exact bodyPost_ret (v:=.tuple #[.int .u64 R,.int .u8 0]) (by simp[results,Tryz.results184,go_sem]) rfl ⟨rfl,uH B2⟩
theorem sz(z:Bool)(A:Option Addr)(D l M k R:Nat)(E t d:Int)(w:World)(Q:0<l)(ht:-100000≤t∧t≤1024)(U:max (t-53) (-1074)=d)(hk:d+1074=k)(N:k≤2045)(hM:M≤9007199254740992)
  (V:∀w',Below w.heap.size w w'→Calls Tryz.prog 171 #[.agg #[.bool z,.slice A l D,.int .i64 E]] w' fun e f=>e=.returned (.int .i64 t)∧Below w'.heap.size w' f)
  (X:∀w',Below w.heap.size w w'→Calls Tryz.prog 200 #[.agg #[.bool z,.slice A l D,.int .i64 E],.int .i64 d] w' fun e f=>e=.returned (.int .u64 M)∧Below w'.heap.size w' f)
  (hR:R=M+k*4503599627370496) (g1:decide (d≤E)=false) (g2:((R:Int)==9218868437227405312)=true):
  Calls Tryz.prog 184 #[.agg #[.bool z,.slice A l D,.int .i64 E]] w fun e w'=>e=.returned (.tuple #[.int .u64 R,.int .u8 5])∧Below w.heap.size w w':=by
 have O:decide (0<l)=true:=decide_eq_true Q
 have hz:((l:Int)==0)=false:=by simp;omega
 have Y:=fun W ts t'=>iV Tryz.prog W ts t' (t-53) (-1074)
 rw[U]at Y
 have Z:=aa V;have KR:=aa X
 have hg:decide ((1024:Int)<t)=false:=decide_eq_false (by omega)
 have w1:IntKind.i64.wrap (t-53)=t-53:=by simp only[IntKind.wrap_i64];omega
 have w2:IntKind.i64.wrap (d- -1074)=(k:Int):=by simp only[IntKind.wrap_i64];omega
 have w3:IntKind.u64.wrap (k:Int)=(k:Int):=by simp only[IntKind.wrap_u64];omega
 have F:=aa (show(M:Int)+(k:Int)*4503599627370496=(R:Int) by omega)
 clear V X U hR
 have H:=aa ((Below.refl w.heap.size w).alloc (Nat.le_refl _) (.cells #[.bool z,.slice A l D,.int .i64 E] 52))
 have X0:=aa (aB.new w (.bool z) (.slice A l D) (.int .i64 E))
 go_enter Tryz.func184,Tryz.ntmps184
 go_wp2_with fail
 refine(uH Z _ (uH H)).mono ?_
 rintro e ae ⟨rfl,h⟩
 have G:=(uH X0).all h
 have K:=aa ((uH H).trans (h.mono (uH H).size))
 have X1:=aa G
 have y0:=G.c0;have y1:=G.c1;have y2:=G.c2
 clear h G Z H X0
 go_wp2_with fail
 refine(uH KR _ (uH K)).mono ?_
 rintro e aj ⟨rfl,m⟩
 have L:=(uH X1).all m
 have B2:=aa ((uH K).trans (m.mono (uH K).size))
 clear y0 y1 y2
 have y0:=L.c0;have y1:=L.c1;have y2:=L.c2
 clear m L KR K X1
 go_upto_region 8 with(fail)
 rw[uH F]
 clear Y w1 w2 w3 hk N hM F Q O hz hg ht
 go_wp2
 exact bodyPost_ret (v:=.tuple #[.int .u64 R,.int .u8 5]) (by simp[results,Tryz.results184,go_sem]) rfl ⟨rfl,uH B2⟩
theorem sC(z:Bool)(A:Option Addr)(D l M k R:Nat)(E t d:Int)(w:World)(Q:0<l)(ht:-100000≤t∧t≤1024)(U:max (t-53) (-1074)=d)(hk:d+1074=k)(N:k≤2045)(hM:M≤9007199254740992)
  (V:∀w',Below w.heap.size w w'→Calls Tryz.prog 171 #[.agg #[.bool z,.slice A l D,.int .i64 E]] w' fun e f=>e=.returned (.int .i64 t)∧Below w'.heap.size w' f)
  (X:∀w',Below w.heap.size w w'→Calls Tryz.prog 200 #[.agg #[.bool z,.slice A l D,.int .i64 E],.int .i64 d] w' fun e f=>e=.returned (.int .u64 M)∧Below w'.heap.size w' f)
  (hR:R=M+k*4503599627370496) (g1:decide (d≤E)=false) (g2:((R:Int)==9218868437227405312)=false) (g3:decide ((R:Int)<4503599627370496)=true):
  Calls Tryz.prog 184 #[.agg #[.bool z,.slice A l D,.int .i64 E]] w fun e w'=>e=.returned (.tuple #[.int .u64 R,.int .u8 3])∧Below w.heap.size w w':=by
 have O:decide (0<l)=true:=decide_eq_true Q
 have hz:((l:Int)==0)=false:=by simp;omega
 have Y:=fun W ts t'=>iV Tryz.prog W ts t' (t-53) (-1074)
 rw[U]at Y
 have Z:=aa V;have KR:=aa X
 have hg:decide ((1024:Int)<t)=false:=decide_eq_false (by omega)
 have w1:IntKind.i64.wrap (t-53)=t-53:=by simp only[IntKind.wrap_i64];omega
 have w2:IntKind.i64.wrap (d- -1074)=(k:Int):=by simp only[IntKind.wrap_i64];omega
 have w3:IntKind.u64.wrap (k:Int)=(k:Int):=by simp only[IntKind.wrap_u64];omega
 have F:=aa (show(M:Int)+(k:Int)*4503599627370496=(R:Int) by omega)
 clear V X U hR
 have H:=aa ((Below.refl w.heap.size w).alloc (Nat.le_refl _) (.cells #[.bool z,.slice A l D,.int .i64 E] 52))
 have X0:=aa (aB.new w (.bool z) (.slice A l D) (.int .i64 E))
 go_enter Tryz.func184,Tryz.ntmps184
 go_wp2_with fail
 refine(uH Z _ (uH H)).mono ?_
 rintro e ae ⟨rfl,h⟩
 have G:=(uH X0).all h
 have K:=aa ((uH H).trans (h.mono (uH H).size))
 have X1:=aa G
 have y0:=G.c0;have y1:=G.c1;have y2:=G.c2
 clear h G Z H X0
 go_wp2_with fail
 refine(uH KR _ (uH K)).mono ?_
 rintro e aj ⟨rfl,m⟩
 have L:=(uH X1).all m
 have B2:=aa ((uH K).trans (m.mono (uH K).size))
 clear y0 y1 y2
 have y0:=L.c0;have y1:=L.c1;have y2:=L.c2
 clear m L KR K X1
 go_upto_region 8 with(fail)
 rw[uH F]
 clear Y w1 w2 w3 hk N hM F Q O hz hg ht
 go_wp2
 exact bodyPost_ret (v:=.tuple #[.int .u64 R,.int .u8 3]) (by simp[results,Tryz.results184,go_sem]) rfl ⟨rfl,uH B2⟩
theorem sD(z:Bool)(A:Option Addr)(D l M k R:Nat)(E t d:Int)(w:World)(Q:0<l)(ht:-100000≤t∧t≤1024)(U:max (t-53) (-1074)=d)(hk:d+1074=k)(N:k≤2045)(hM:M≤9007199254740992)
  (V:∀w',Below w.heap.size w w'→Calls Tryz.prog 171 #[.agg #[.bool z,.slice A l D,.int .i64 E]] w' fun e f=>e=.returned (.int .i64 t)∧Below w'.heap.size w' f)
  (X:∀w',Below w.heap.size w w'→Calls Tryz.prog 200 #[.agg #[.bool z,.slice A l D,.int .i64 E],.int .i64 d] w' fun e f=>e=.returned (.int .u64 M)∧Below w'.heap.size w' f)
  (hR:R=M+k*4503599627370496) (g1:decide (d≤E)=false) (g2:((R:Int)==9218868437227405312)=false) (g3:decide ((R:Int)<4503599627370496)=false):
  Calls Tryz.prog 184 #[.agg #[.bool z,.slice A l D,.int .i64 E]] w fun e w'=>e=.returned (.tuple #[.int .u64 R,.int .u8 1])∧Below w.heap.size w w':=by
 have O:decide (0<l)=true:=decide_eq_true Q
 have hz:((l:Int)==0)=false:=by simp;omega
 have Y:=fun W ts t'=>iV Tryz.prog W ts t' (t-53) (-1074)
 rw[U]at Y
 have Z:=aa V;have KR:=aa X
 have hg:decide ((1024:Int)<t)=false:=decide_eq_false (by omega)
 have w1:IntKind.i64.wrap (t-53)=t-53:=by simp only[IntKind.wrap_i64];omega
 have w2:IntKind.i64.wrap (d- -1074)=(k:Int):=by simp only[IntKind.wrap_i64];omega
 have w3:IntKind.u64.wrap (k:Int)=(k:Int):=by simp only[IntKind.wrap_u64];omega
 have F:=aa (show(M:Int)+(k:Int)*4503599627370496=(R:Int) by omega)
 clear V X U hR
 have H:=aa ((Below.refl w.heap.size w).alloc (Nat.le_refl _) (.cells #[.bool z,.slice A l D,.int .i64 E] 52))
 have X0:=aa (aB.new w (.bool z) (.slice A l D) (.int .i64 E))
 go_enter Tryz.func184,Tryz.ntmps184
 go_wp2_with fail
 refine(uH Z _ (uH H)).mono ?_
 rintro e ae ⟨rfl,h⟩
 have G:=(uH X0).all h
 have K:=aa ((uH H).trans (h.mono (uH H).size))
 have X1:=aa G
 have y0:=G.c0;have y1:=G.c1;have y2:=G.c2
 clear h G Z H X0
 go_wp2_with fail
 refine(uH KR _ (uH K)).mono ?_
 rintro e aj ⟨rfl,m⟩
 have L:=(uH X1).all m
 have B2:=aa ((uH K).trans (m.mono (uH K).size))
 clear y0 y1 y2
 have y0:=L.c0;have y1:=L.c1;have y2:=L.c2
 clear m L KR K X1
 go_upto_region 8 with(fail)
 rw[uH F]
 clear Y w1 w2 w3 hk N hM F Q O hz hg ht
 go_wp2
 exact bodyPost_ret (v:=.tuple #[.int .u64 R,.int .u8 1]) (by simp[results,Tryz.results184,go_sem]) rfl ⟨rfl,uH B2⟩
theorem sE(f:Bool)(h:Option Addr)(l:Nat)(E t:Int)(w:World)
  (D:∀w',Below w.heap.size w w'→Calls Tryz.prog 171 #[.agg #[.bool f,.slice h 0 l,.int .i64 E]] w' fun e A=>e=.returned (.int .i64 t)∧Below w'.heap.size w' A):
  Calls Tryz.prog 184 #[.agg #[.bool f,.slice h 0 l,.int .i64 E]] w fun e w'=>e=.returned (.tuple #[.int .u64 0,.int .u8 0])∧Below w.heap.size w w':=by
 have F:=aa D
 clear D
 have m:=aa ((Below.refl w.heap.size w).alloc (Nat.le_refl _) (.cells #[.bool f,.slice h 0 l,.int .i64 E] 52))
 have G:=aa (aB.new w (.bool f) (.slice h 0 l) (.int .i64 E))
 go_enter Tryz.func184,Tryz.ntmps184
 go_wp2_with fail
 refine(uH F _ (uH m)).mono ?_
 rintro e K ⟨rfl,d⟩
 have z:=(uH G).all d
 have H:=aa ((uH m).trans (d.mono (uH m).size))
 have L:=z.c0;have M:=z.c1;have N:=z.c2
 clear d z F m G
 go_wp2
 exact bodyPost_ret (v:=.tuple #[.int .u64 0,.int .u8 0]) (by simp[results,Tryz.results184,go_sem]) rfl ⟨rfl,uH H⟩
theorem sG(f:Bool)(h:Option Addr)(m l:Nat)(E t:Int)(w:World)(L:0<l)(F:1024<t)
  (G:∀w',Below w.heap.size w w'→Calls Tryz.prog 171 #[.agg #[.bool f,.slice h l m,.int .i64 E]] w' fun e D=>e=.returned (.int .i64 t)∧Below w'.heap.size w' D):
  Calls Tryz.prog 184 #[.agg #[.bool f,.slice h l m,.int .i64 E]] w fun e w'=>e=.returned (.tuple #[.int .u64 9218868437227405312,.int .u8 5])∧Below w.heap.size w w':=by
 have M:decide (0<l)=true:=decide_eq_true L
 have Q:((l:Int)==0)=false:=by simp;omega
 have U:decide ((1024:Int)<t)=true:=decide_eq_true F
 have H:=aa G
 clear G F
 have z:=aa ((Below.refl w.heap.size w).alloc (Nat.le_refl _) (.cells #[.bool f,.slice h l m,.int .i64 E] 52))
 have K:=aa (aB.new w (.bool f) (.slice h l m) (.int .i64 E))
 go_enter Tryz.func184,Tryz.ntmps184
 go_wp2_with fail
 refine(uH H _ (uH z)).mono ?_
 rintro e O ⟨rfl,d⟩
 have A:=(uH K).all d
 have N:=aa ((uH z).trans (d.mono (uH z).size))
 have V:=A.c0;have X:=A.c1;have Y:=A.c2
 clear d A H z K
 go_wp2
 exact bodyPost_ret (v:=.tuple #[.int .u64 9218868437227405312,.int .u8 5]) (by simp[results,Tryz.results184,go_sem]) rfl ⟨rfl,uH N⟩
theorem GF{n:Bool}{L:List Nat}(d:ar n L=true)(f:L≠ []):ak L≠0:=fun h=>f ((aK L (ay d).2.1).1 h)
theorem o6(f:Bool)(h:Option Addr)(l:Nat)(A:List Nat)(E:Int)(w:World)(K:ag w h l A)(Y:j6 f A E=true):
  Calls Tryz.prog 184 #[.agg #[.bool f,.slice h A.length l,.int .i64 E]] w fun e w'=>e=.returned (.tuple #[.int .u64 (bw (ak A) E:Nat),.int .u8 (bF (ak A) E)])∧Below w.heap.size w w':=by
 obtain⟨d1,d2,d3,d4,d5⟩:=bR Y
 have t:∀w',Below w.heap.size w w'→Calls Tryz.prog 171 #[.agg #[.bool f,.slice h A.length l,.int .i64 E]] w' fun e D=>e=.returned (.int .i64 (IntKind.i64.wrap (dH A+E)))∧Below w'.heap.size w' D:=fun w' V=>kn f h l A E w' (K.below V) (by omega)
 rw[iy K.2.1 d1]at t
 by_cases L:A= []
 ·subst L
  have X:bw (ak []) E=0:=by simp[bw,ak]
  have m:bF (ak []) E=0:=by simp[bF,ak]
  rw[X,m]
  exact sE f h l E _ w t
 ·have z:=GF d1 L
  have G:0<A.length:=List.length_pos_iff.2 L
  have ae:bl (ak A)≤16384:=by
   have h1:=aY (ak A) z
   have h2:=uJ A K.2.1 512 d2
   have:=ch (Nat.lt_of_le_of_lt h1.2.1 h2)
   omega
  have hw:IntKind.i64.wrap ((bl (ak A):Int)+E)=(bl (ak A):Int)+E:=by simp only[IntKind.wrap_i64];omega
  rw[hw]at t
  by_cases M:1024<(bl (ak A):Int)+E
  ·have X:bw (ak A) E=9218868437227405312:=by unfold bw;rw[if_neg z,if_pos M]
   have m:bF (ak A) E=5:=by unfold bF;rw[if_neg z,if_pos M]
   rw[X,m]
   exact sG f h l A.length E _ w G M t
  ·have N:=cq (ak A) E z (by omega)
   obtain⟨l1,l2,l3⟩:=bW (ak A) E
   have O:=(co (ak A) E z).1
   have hN:=IW (ak A) E z
   have Z:=(aY (ak A) z).1
   have Q:∀w',Below w.heap.size w w'→Calls Tryz.prog 200 #[.agg #[.bool f,.slice h A.length l,.int .i64 E],.int .i64 (av (ak A) E)] w' fun e D=>e=.returned (.int .u64 (cV (ak A) E:Nat))∧Below w'.heap.size w' D:=fun w' V=>
    su f h l A E _ w' (K.below V) Y L (by omega) (by omega) hN
   have d:max ((bl (ak A):Int)+E-53) (-1074)=av (ak A) E:=rfl
   have U:av (ak A) E+1074=((av (ak A) E+1074).toNat:Int):=by omega
   have m:bF (ak A) E=if av (ak A) E≤E then 0 else if bw (ak A) E=9218868437227405312 then 5 else if bw (ak A) E<4503599627370496 then 3 else 1:=by unfold bF;rw[if_neg z,if_neg M]
   by_cases F:av (ak A) E≤E
   ·rw[m,if_pos F]
    exact sw f h l A.length _ _ _ E _ _ w G (by omega) d U (by omega) O t Q N (decide_eq_true F)
   ·rw[if_neg F]at m
    by_cases g2:bw (ak A) E=9218868437227405312
    ·rw[m,if_pos g2]
     exact sz f h l A.length _ _ _ E _ _ w G (by omega) d U (by omega) O t Q N (decide_eq_false F) (by simp;omega)
    ·rw[if_neg g2]at m
     have H:((bw (ak A) E:Int)==9218868437227405312)=false:=by simp;omega
     by_cases g3:bw (ak A) E<4503599627370496
     ·rw[m,if_pos g3]
      exact sC f h l A.length _ _ _ E _ _ w G (by omega) d U (by omega) O t Q N (decide_eq_false F) H (decide_eq_true (by omega))
     ·rw[m,if_neg g3]
      exact sD f h l A.length _ _ _ E _ _ w G (by omega) d U (by omega) O t Q N (decide_eq_false F) H (decide_eq_false (by omega))
def bZ(neg:Bool)(r:Nat):Nat:=if neg=true then r+9223372036854775808 else r
theorem cI(r:Nat):bZ true r=r+9223372036854775808:=if_pos rfl
theorem aU(r:Nat):bZ false r=r:=if_neg Bool.false_ne_true
theorem Ao(r:Nat)(h:r<9223372036854775808):fN r=bZ true r:=by rw[cI];unfold fN;exact if_neg (by omega)
theorem sH(m:Bool)(K:Option Addr)(L:Nat)(A:List Nat)(E:Int)(w:World)(hA:ag w K L A)(X:j6 m A E=true)(hT:cC w):
  Calls Tryz.prog 158 #[.agg #[.bool m,.slice K A.length L,.int .i64 E]] w fun e w'=>e=.returned (.tuple #[.int .u64 (bZ m (bw (ak A) E):Nat),.int .u8 (bF (ak A) E),.int .i64 0])∧Below w.heap.size w w':=by
 have la:=(bR X).2.1
 have N:=aa (fun w' h t=>ip m K L A E w' h (by omega) t)
 have he:nv m A E=0:=by unfold nv;rw[X];rfl
 rw[he]at N
 have Y:=aa (fun w' h=>o6 m K L A E w' h X)
 have ae:=cN (ak A) E
 have hn:fN (bw (ak A) E)=bZ true (bw (ak A) E):=Ao _ (by omega)
 have CM:=aa (fun w'=>gg (bw (ak A) E) w' (by omega))
 rw[hn]at CM
 clear he X la
 have D:=aa ((Below.refl w.heap.size w).alloc (Nat.le_refl _) (.cells #[.bool m,.slice K A.length L,.int .i64 E] 52))
 have Z:=aa (aB.new w (.bool m) (.slice K A.length L) (.int .i64 E))
 have M:=aa (hA.below (uH D));have HT:=aa (hT.all (uH D))
 have F:bZ false (bw (ak A) E)=bw (ak A) E:=aU _
 clear hA hT ae hn
 generalize bF (ak A) E=fl at*
 generalize bw (ak A) E=R at*
 cases m
 ·rw[F]
  clear CM F
  go_enter Tryz.func158,Tryz.ntmps158
  go_wp2_with fail
  refine(uH N _ (uH M) (uH HT)).mono ?_
  rintro e w1 ⟨rfl,d⟩
  have G:=aa ((uH D).trans (d.mono (uH D).size))
  have l:=(uH Z).all d
  have H:=aa ((uH M).below d)
  have O:=l.c0;have Q:=l.c1;have U:=l.c2
  have V:=aa l
  clear d D N M HT Z l
  go_wp2_with fail
  refine(uH Y _ (uH H)).mono ?_
  rintro e w2 ⟨rfl,f⟩
  have B2:=aa ((uH G).trans (f.mono (uH G).size))
  have z:=(uH V).all f
  clear O Q U
  have O:=z.c0;have Q:=z.c1;have U:=z.c2
  clear f z Y G V
  go_wp2
  exact bodyPost_ret (v:=.tuple #[.int .u64 R,.int .u8 fl,.int .i64 0]) (by simp[results,Tryz.results158,go_sem]) rfl ⟨rfl,uH B2⟩
 ·clear F
  generalize bZ true R=R' at*
  go_enter Tryz.func158,Tryz.ntmps158
  go_wp2_with fail
  refine(uH N _ (uH M) (uH HT)).mono ?_
  rintro e w1 ⟨rfl,d⟩
  have G:=aa ((uH D).trans (d.mono (uH D).size))
  have l:=(uH Z).all d
  have H:=aa ((uH M).below d)
  have O:=l.c0;have Q:=l.c1;have U:=l.c2
  have V:=aa l
  clear d D N M HT Z l
  go_wp2_with fail
  refine(uH Y _ (uH H)).mono ?_
  rintro e w2 ⟨rfl,f⟩
  have B2:=aa ((uH G).trans (f.mono (uH G).size))
  have z:=(uH V).all f
  clear O Q U
  have O:=z.c0;have Q:=z.c1;have U:=z.c2
  clear f z Y G V
  go_wp2_with(go_at_call 132;refine(uH CM _).mono ?_;rintro e w3 ⟨rfl,rfl⟩)
  exact bodyPost_ret (v:=.tuple #[.int .u64 R',.int .u8 fl,.int .i64 0]) (by simp[results,Tryz.results158,go_sem]) rfl ⟨rfl,uH B2⟩
theorem iW{w:World}{v:Value}{m e:Int}(h:aG w v m e)(l:m.natAbs<dE)(t:qA m e=true)(z:cC w):
  Calls Tryz.prog 158 #[v] w fun r w'=>r=.returned (.tuple #[.int .u64 (bZ (decide (m<0)) (bw m.natAbs e):Nat),.int .u8 (bF m.natAbs e),.int .i64 0])∧Below w.heap.size w w':=by
 obtain⟨n,a,c,L,rfl,D,K,F,M,G⟩:=h.right l
 have d:n=decide (m<0):=by
  obtain⟨N,O,Q,U,f,_,_,H,_⟩:=h.parts
  simp only[Value.agg.injEq,Array.mk.injEq,List.cons.injEq,Value.bool.injEq]at f
  rw[f.1];exact H
 have A:ak L=m.natAbs:=by rw[←F,aP]
 have:=sH n a c L e w D (G.trans t) z
 rw[A,d]at this
 rw[d]
 exact this
theorem GG(b:Nat):(fM b).natAbs=fA b:=by unfold fM sg;split<;>simp
theorem GH(b:Nat)(d:ap b=true):fP b<2047:=by
 have:=mY b
 unfold ap at d
 simp at d
 omega
theorem Ap(b:Nat)(A:ap b=true):bw (fA b) (fE b)=b%9223372036854775808∧av (fA b) (fE b)=fE b∧(bl (fA b):Int)+fE b≤1024:=by
 have H:=GH b A
 have D:b%9223372036854775808=fF b+fP b*4503599627370496:=by unfold fF fP;omega
 have F:=rO b
 rw[D]
 by_cases h:fP b=0
 ·have m:fA b=fF b:=by unfold fA;rw[if_pos h]
  have t:fE b= -1074:=by unfold fE;rw[if_pos h]
  rw[m,t,h]
  generalize fF b=f at*
  by_cases z:f=0
  ·subst z
   exact⟨by simp[bw],by decide,by decide⟩
  ·obtain⟨K,L,M⟩:=aY f z
   have d:bl f≤52:=by
    have G:(2:Nat)^(bl f-1)<2^52:=by rw[F6];omega
    have:=ch G
    omega
   have l:av f (-1074)= -1074:=by unfold av;omega
   refine⟨?_,l,by omega⟩
   rw[cq f _ z (by omega)]
   unfold cV
   rw[l]
   have:=iQ f 0
   simp at this
   simp[this]
 ·have m:fA b=fF b+4503599627370496:=by unfold fA;rw[if_neg h]
  have t:fE b=(fP b:Int)-1075:=by unfold fE;rw[if_neg h]
  rw[m,t]
  generalize fF b=f at*
  generalize fP b=p at*
  have d:bl (f+4503599627370496)=53:=ke (by decide) (by show 2^52≤_;rw[F6];omega) (by rw[zv];omega)
  have l:av (f+4503599627370496) ((p:Int)-1075)=(p:Int)-1075:=by unfold av;rw[d];omega
  refine⟨?_,l,by rw[d];omega⟩
  rw[cq _ _ (by omega) (by rw[d];omega)]
  unfold cV
  rw[l]
  have:=iQ (f+4503599627370496) 0
  simp at this
  rw[show(p:Int)-1075-((p:Int)-1075)=0 by omega,this]
  omega
theorem Aq(z:Int)(h:z≠0):z.natAbs=(oM z).natAbs*2^tz z.natAbs:=by
 have f:=(fL z h).1
 have d:=congrArg Int.natAbs f
 rw[Int.natAbs_mul,Int.natAbs_pow]at d
 exact d
theorem jk(z:Int):decide (oM z<0)=decide (z<0):=by
 have h:=wB z
 unfold fj at h
 by_cases f:oM z<0
 ·rw[if_pos f]at h
  by_cases d:z<0
  ·rw[decide_eq_true f,decide_eq_true d]
  ·rw[if_neg d]at h
   split at h<;>omega
 ·rw[if_neg f]at h
  by_cases d:z<0
  ·rw[if_pos d]at h
   split at h<;>omega
  ·rw[decide_eq_false f,decide_eq_false d]
theorem jl(z e:Int):bw (oM z).natAbs (oE z e)=bw z.natAbs e∧(z≠0→av (oM z).natAbs (oE z e)=av z.natAbs e∧(bl (oM z).natAbs:Int)+oE z e=(bl z.natAbs:Int)+e):=by
 by_cases h:z=0
 ·subst h
  refine⟨by rw[cu];simp[bw],fun h=>absurd rfl h⟩
 ·have l:=Aq z h
  have d:(oM z).natAbs≠0:=by have:=(gI z h).1;omega
  rw[dJ z e h]
  generalize tz z.natAbs=k at*
  rw[l,dy]
  refine⟨rfl,fun _=>?_⟩
  have f:=kf (oM z).natAbs k d
  refine⟨?_,by rw[f];omega⟩
  unfold av
  rw[f]
  congr 1
  omega
end Go.Proofs.YtnnfjeieennffaaGreatDoor
namespace Go.Proofs.YtnnfjeieennffaaGreatDoor
theorem gP(n:Bool)(s:Nat)(h:s<9223372036854775808):fS (bZ n s)=n:=by
 unfold fS
 cases n
 ·rw[aU];exact decide_eq_false (by omega)
 ·rw[cI];exact decide_eq_true (by omega)
theorem GI(n:Bool)(s:Nat)(h:s<9223372036854775808):fP (bZ n s)=s/4503599627370496:=by
 unfold fP
 cases n
 ·rw[aU];omega
 ·rw[cI];omega
theorem GJ(n:Bool)(s:Nat)(_h:s<9223372036854775808):fF (bZ n s)=s%4503599627370496:=by
 unfold fF
 cases n
 ·rw[aU]
 ·rw[cI];omega
theorem GK(n:Bool)(s:Nat)(h:s<9218868437227405312):∃j:Nat,fE (bZ n s)= -1074+(j:Int)∧fM (bZ n s)*2^j=sg n (rv s):=by
 have f:=GI n s (by omega)
 have l:=GJ n s (by omega)
 have t:=gP n s (by omega)
 unfold fM fE fA rv
 rw[f,l,t]
 by_cases d:s<4503599627370496
 ·rw[if_pos (by omega),if_pos (by omega),if_pos d]
  refine⟨0,by simp,?_⟩
  rw[Nat.mod_eq_of_lt d]
  simp
 ·rw[if_neg (by omega),if_neg (by omega),if_neg d]
  refine⟨s/4503599627370496-1,by omega,?_⟩
  rw[Nat.add_comm 4503599627370496]
  generalize s%4503599627370496+4503599627370496=m
  generalize s/4503599627370496-1=j
  unfold sg
  cases n
  ·simp
  ·simp[Int.neg_mul]
end Go.Proofs.YtnnfjeieennffaaGreatDoor
