/- Part 13 of the texts. -/
import Derived.Test.YtcbcmlaogehimaaGreatDoorPartu12
set_option maxHeartbeats 4000000
namespace Go.Proofs.YtcbcmlaogehimaaGreatDoor
open Go.RowKit
theorem Pz(v:Nat)(E:Int)(h:v≠0):pN v (E-aP v E)<1152921504606846976:=by
 obtain⟨I,J,K⟩:=dk v E;obtain⟨L,M,F⟩:=cC v h;generalize aP v E=l at*;have G:(2:Nat)^54<1152921504606846976:=by decide
 unfold pN
 split
 ·obtain⟨k,D⟩:=Int.eq_ofNat_of_zero_le (show 0<=E-l+1 by omega)
  rw[D,Int.toNat_natCast];have t:v*2^k<2^bl v*2^k:=Nat.mul_lt_mul_of_pos_right F (Nat.two_pow_pos _);rw[<-Nat.pow_add]at t;have H:(2:Nat)^(bl v+k)<=2^54:=jn (by omega);omega
 ·obtain⟨k,D⟩:=Int.eq_ofNat_of_zero_le (show 0<=-(E-l+1) by omega)
  rw[D,Int.toNat_natCast];have t:v<2^54*2^k:=by
   rw[<-Nat.pow_add];exact Nat.lt_of_lt_of_le F (jn (by omega))
  have H:v/2^k<2^54:=Nat.div_lt_of_lt_mul (by rw[Nat.mul_comm];exact t);omega
theorem kJ(P:Program)(w:World)(h:Array TypeId)(t:TypeId)(x y:Int):(Builtin.max_ h t #[C0 x,C0 y]).run P w=.ok (C0 (max x y)) w:=by
 rw[run_max_int2]
 congr 2
 split<;>omega
theorem wo(I:Bool)(ao:GY)(J l M k R:Nat)(E t h:Int)(w:World)(h0:0<l)(ht:-100000<=t/\t<=1024)(hl:max (t-53) (-1074)=h)(hk:h+1074=k)(U:k<=2045)(hM:M<=9007199254740992)
  (CT:∀D,H8 w D->BS 169 #[.agg #[.bool I,.slice ao l J,C0 E]] D (C0 t))
  (CR:∀D,H8 w D->BS 281 #[.agg #[.bool I,.slice ao l J,C0 E],C0 h] D (CI M))
  (hR:R=M+k*4503599627370496) (g1:decide (h<=E)=true):
  BS 261 #[.agg #[.bool I,.slice ao l J,C0 E]] w (.tuple #[CI R,.int .u8 0]):=by
 have Z:decide (0<l)=true:=decide_eq_true h0;have hz:((l:Int)==0)=false:=by simp;omega
 have hm:=fun W ts t'=>kJ Tryz.prog W ts t' (t-53) (-1074)
 rw[hl]at hm;have KT:=ac CT;have KR:=ac CR;have hg:decide ((1024:Int)<t)=false:=decide_eq_false (by omega);have w1:IntKind.i64.wrap (t-53)=t-53:=by simp only[IntKind.wrap_i64];omega
 have w2:IntKind.i64.wrap (h- -1074)=(k:Int):=by simp only[IntKind.wrap_i64];omega
 have w3:IntKind.u64.wrap (k:Int)=(k:Int):=by simp only[IntKind.wrap_u64];omega
 have K:=ac (show(M:Int)+(k:Int)*4503599627370496=(R:Int) by omega);clear CT CR hl hR;have N:=ac ((Below.refl w.heap.size w).alloc (Nat.le_refl _) (.cells #[.bool I,.slice ao l J,C0 E] 35));have X0:=ac (ar.new w (.bool I) (.slice ao l J) (C0 E))
 go_enter Tryz.func261,Tryz.ntmps261
 go_wp2_with fail;refine(uH KT _ (uH N)).mono ?_;rintro e aa ⟨rfl,G⟩;have L:=(uH X0).all G;have O:=ac ((uH N).trans (G.mono (uH N).size));have X1:=ac L;have y0:=L.c0;have y1:=L.c1;have y2:=L.c2;clear G L KT N X0;go_wp2_with fail;refine(uH KR _ (uH O)).mono ?_;rintro e ae ⟨rfl,H⟩;have Q:=(uH X1).all H;have B2:=ac ((uH O).trans (H.mono (uH O).size));clear y0 y1 y2;have y0:=Q.c0;have y1:=Q.c1;have y2:=Q.c2;clear H Q KR O X1
 go_upto_region 8 with(fail)
 rw[uH K];clear hm w1 w2 w3 hk U hM K h0 Z hz hg ht
 go_wp2
 exact bodyPost_ret (v:=.tuple #[CI R,.int .u8 0]) (by simp[results,Tryz.results261,go_sem]) rfl ⟨rfl,uH B2⟩
theorem ws(I:Bool)(ao:GY)(J l M k R:Nat)(E t h:Int)(w:World)(h0:0<l)(ht:-100000<=t/\t<=1024)(hl:max (t-53) (-1074)=h)(hk:h+1074=k)(U:k<=2045)(hM:M<=9007199254740992)
  (CT:∀D,H8 w D->BS 169 #[.agg #[.bool I,.slice ao l J,C0 E]] D (C0 t))
  (CR:∀D,H8 w D->BS 281 #[.agg #[.bool I,.slice ao l J,C0 E],C0 h] D (CI M))
  (hR:R=M+k*4503599627370496) (g1:decide (h<=E)=false) (g2:((R:Int)==9218868437227405312)=true):
  BS 261 #[.agg #[.bool I,.slice ao l J,C0 E]] w (.tuple #[CI R,.int .u8 5]):=by
 have Z:decide (0<l)=true:=decide_eq_true h0;have hz:((l:Int)==0)=false:=by simp;omega
 have hm:=fun W ts t'=>kJ Tryz.prog W ts t' (t-53) (-1074)
 rw[hl]at hm;have KT:=ac CT;have KR:=ac CR;have hg:decide ((1024:Int)<t)=false:=decide_eq_false (by omega);have w1:IntKind.i64.wrap (t-53)=t-53:=by simp only[IntKind.wrap_i64];omega
 have w2:IntKind.i64.wrap (h- -1074)=(k:Int):=by simp only[IntKind.wrap_i64];omega
 have w3:IntKind.u64.wrap (k:Int)=(k:Int):=by simp only[IntKind.wrap_u64];omega
 have K:=ac (show(M:Int)+(k:Int)*4503599627370496=(R:Int) by omega);clear CT CR hl hR;have N:=ac ((Below.refl w.heap.size w).alloc (Nat.le_refl _) (.cells #[.bool I,.slice ao l J,C0 E] 35));have X0:=ac (ar.new w (.bool I) (.slice ao l J) (C0 E))
 go_enter Tryz.func261,Tryz.ntmps261
 go_wp2_with fail;refine(uH KT _ (uH N)).mono ?_;rintro e aa ⟨rfl,G⟩;have L:=(uH X0).all G;have O:=ac ((uH N).trans (G.mono (uH N).size));have X1:=ac L;have y0:=L.c0;have y1:=L.c1;have y2:=L.c2;clear G L KT N X0;go_wp2_with fail;refine(uH KR _ (uH O)).mono ?_;rintro e ae ⟨rfl,H⟩;have Q:=(uH X1).all H;have B2:=ac ((uH O).trans (H.mono (uH O).size));clear y0 y1 y2;have y0:=Q.c0;have y1:=Q.c1;have y2:=Q.c2;clear H Q KR O X1
 go_upto_region 8 with(fail)
 rw[uH K];clear hm w1 w2 w3 hk U hM K h0 Z hz hg ht
 go_wp2
 exact bodyPost_ret (v:=.tuple #[CI R,.int .u8 5]) (by simp[results,Tryz.results261,go_sem]) rfl ⟨rfl,uH B2⟩
theorem wt(I:Bool)(ao:GY)(J l M k R:Nat)(E t h:Int)(w:World)(h0:0<l)(ht:-100000<=t/\t<=1024)(hl:max (t-53) (-1074)=h)(hk:h+1074=k)(U:k<=2045)(hM:M<=9007199254740992)
  (CT:∀D,H8 w D->BS 169 #[.agg #[.bool I,.slice ao l J,C0 E]] D (C0 t))
  (CR:∀D,H8 w D->BS 281 #[.agg #[.bool I,.slice ao l J,C0 E],C0 h] D (CI M))
  (hR:R=M+k*4503599627370496) (g1:decide (h<=E)=false) (g2:((R:Int)==9218868437227405312)=false) (g3:decide ((R:Int)<4503599627370496)=true):
  BS 261 #[.agg #[.bool I,.slice ao l J,C0 E]] w (.tuple #[CI R,.int .u8 3]):=by
 have Z:decide (0<l)=true:=decide_eq_true h0;have hz:((l:Int)==0)=false:=by simp;omega
 have hm:=fun W ts t'=>kJ Tryz.prog W ts t' (t-53) (-1074)
 rw[hl]at hm;have KT:=ac CT;have KR:=ac CR;have hg:decide ((1024:Int)<t)=false:=decide_eq_false (by omega);have w1:IntKind.i64.wrap (t-53)=t-53:=by simp only[IntKind.wrap_i64];omega
 have w2:IntKind.i64.wrap (h- -1074)=(k:Int):=by simp only[IntKind.wrap_i64];omega
 have w3:IntKind.u64.wrap (k:Int)=(k:Int):=by simp only[IntKind.wrap_u64];omega
 have K:=ac (show(M:Int)+(k:Int)*4503599627370496=(R:Int) by omega);clear CT CR hl hR;have N:=ac ((Below.refl w.heap.size w).alloc (Nat.le_refl _) (.cells #[.bool I,.slice ao l J,C0 E] 35));have X0:=ac (ar.new w (.bool I) (.slice ao l J) (C0 E))
 go_enter Tryz.func261,Tryz.ntmps261
 go_wp2_with fail;refine(uH KT _ (uH N)).mono ?_;rintro e aa ⟨rfl,G⟩;have L:=(uH X0).all G;have O:=ac ((uH N).trans (G.mono (uH N).size));have X1:=ac L;have y0:=L.c0;have y1:=L.c1;have y2:=L.c2;clear G L KT N X0;go_wp2_with fail;refine(uH KR _ (uH O)).mono ?_;rintro e ae ⟨rfl,H⟩;have Q:=(uH X1).all H;have B2:=ac ((uH O).trans (H.mono (uH O).size));clear y0 y1 y2;have y0:=Q.c0;have y1:=Q.c1;have y2:=Q.c2;clear H Q KR O X1
 go_upto_region 8 with(fail)
 rw[uH K];clear hm w1 w2 w3 hk U hM K h0 Z hz hg ht
 go_wp2
 exact bodyPost_ret (v:=.tuple #[CI R,.int .u8 3]) (by simp[results,Tryz.results261,go_sem]) rfl ⟨rfl,uH B2⟩
theorem wu(I:Bool)(ao:GY)(J l M k R:Nat)(E t h:Int)(w:World)(h0:0<l)(ht:-100000<=t/\t<=1024)(hl:max (t-53) (-1074)=h)(hk:h+1074=k)(U:k<=2045)(hM:M<=9007199254740992)
  (CT:∀D,H8 w D->BS 169 #[.agg #[.bool I,.slice ao l J,C0 E]] D (C0 t))
  (CR:∀D,H8 w D->BS 281 #[.agg #[.bool I,.slice ao l J,C0 E],C0 h] D (CI M))
  (hR:R=M+k*4503599627370496) (g1:decide (h<=E)=false) (g2:((R:Int)==9218868437227405312)=false) (g3:decide ((R:Int)<4503599627370496)=false):
  BS 261 #[.agg #[.bool I,.slice ao l J,C0 E]] w (.tuple #[CI R,.int .u8 1]):=by
 have Z:decide (0<l)=true:=decide_eq_true h0;have hz:((l:Int)==0)=false:=by simp;omega
 have hm:=fun W ts t'=>kJ Tryz.prog W ts t' (t-53) (-1074)
 rw[hl]at hm;have KT:=ac CT;have KR:=ac CR;have hg:decide ((1024:Int)<t)=false:=decide_eq_false (by omega);have w1:IntKind.i64.wrap (t-53)=t-53:=by simp only[IntKind.wrap_i64];omega
 have w2:IntKind.i64.wrap (h- -1074)=(k:Int):=by simp only[IntKind.wrap_i64];omega
 have w3:IntKind.u64.wrap (k:Int)=(k:Int):=by simp only[IntKind.wrap_u64];omega
 have K:=ac (show(M:Int)+(k:Int)*4503599627370496=(R:Int) by omega);clear CT CR hl hR;have N:=ac ((Below.refl w.heap.size w).alloc (Nat.le_refl _) (.cells #[.bool I,.slice ao l J,C0 E] 35));have X0:=ac (ar.new w (.bool I) (.slice ao l J) (C0 E))
 go_enter Tryz.func261,Tryz.ntmps261
 go_wp2_with fail;refine(uH KT _ (uH N)).mono ?_;rintro e aa ⟨rfl,G⟩;have L:=(uH X0).all G;have O:=ac ((uH N).trans (G.mono (uH N).size));have X1:=ac L;have y0:=L.c0;have y1:=L.c1;have y2:=L.c2;clear G L KT N X0;go_wp2_with fail;refine(uH KR _ (uH O)).mono ?_;rintro e ae ⟨rfl,H⟩;have Q:=(uH X1).all H;have B2:=ac ((uH O).trans (H.mono (uH O).size));clear y0 y1 y2;have y0:=Q.c0;have y1:=Q.c1;have y2:=Q.c2;clear H Q KR O X1
 go_upto_region 8 with(fail)
 rw[uH K];clear hm w1 w2 w3 hk U hM K h0 Z hz hg ht
 go_wp2
 exact bodyPost_ret (v:=.tuple #[CI R,.int .u8 1]) (by simp[results,Tryz.results261,go_sem]) rfl ⟨rfl,uH B2⟩
theorem ww(D:Bool)(ao:GY)(F:Nat)(E t:Int)(w:World)
  (J:∀l,H8 w l->BS 169 #[.agg #[.bool D,.slice ao 0 F,C0 E]] l (C0 t)):
  BS 261 #[.agg #[.bool D,.slice ao 0 F,C0 E]] w (.tuple #[CI 0,.int .u8 0]):=by
 have K:=ac J;clear J;have G:=ac ((Below.refl w.heap.size w).alloc (Nat.le_refl _) (.cells #[.bool D,.slice ao 0 F,C0 E] 35));have L:=ac (ar.new w (.bool D) (.slice ao 0 F) (C0 E))
 go_enter Tryz.func261,Tryz.ntmps261
 go_wp2_with fail;refine(uH K _ (uH G)).mono ?_;rintro e N ⟨rfl,h⟩;have H:=(uH L).all h;have M:=ac ((uH G).trans (h.mono (uH G).size));have O:=H.c0;have Q:=H.c1;have U:=H.c2;clear h H K G L
 go_wp2
 exact bodyPost_ret (v:=.tuple #[CI 0,.int .u8 0]) (by simp[results,Tryz.results261,go_sem]) rfl ⟨rfl,uH M⟩
theorem wy(F:Bool)(ao:GY)(G l:Nat)(E t:Int)(w:World)(O:0<l)(K:1024<t)
  (L:∀D,H8 w D->BS 169 #[.agg #[.bool F,.slice ao l G,C0 E]] D (C0 t)):
  BS 261 #[.agg #[.bool F,.slice ao l G,C0 E]] w (.tuple #[CI 9218868437227405312,.int .u8 5]):=by
 have Q:decide (0<l)=true:=decide_eq_true O;have hz:((l:Int)==0)=false:=by simp;omega
 have hg:decide ((1024:Int)<t)=true:=decide_eq_true K;have M:=ac L;clear L K;have H:=ac ((Below.refl w.heap.size w).alloc (Nat.le_refl _) (.cells #[.bool F,.slice ao l G,C0 E] 35));have N:=ac (ar.new w (.bool F) (.slice ao l G) (C0 E))
 go_enter Tryz.func261,Tryz.ntmps261
 go_wp2_with fail;refine(uH M _ (uH H)).mono ?_;rintro e Z ⟨rfl,h⟩;have I:=(uH N).all h;have U:=ac ((uH H).trans (h.mono (uH H).size));have y0:=I.c0;have y1:=I.c1;have y2:=I.c2;clear h I M H N
 go_wp2
 exact bodyPost_ret (v:=.tuple #[CI 9218868437227405312,.int .u8 5]) (by simp[results,Tryz.results261,go_sem]) rfl ⟨rfl,uH U⟩
theorem Nv{n:Bool}{L:H3}(l:aD n L=true)(t:L≠ []):aj L≠0:=fun h=>t ((aY L (aG l).2.1).1 h)
theorem sS(t:Bool)(ao:GY)(D:Nat)(A:H3)(E:Int)(w:World)(M:ai w ao D A)(hr:np t A E=true):
  BS 261 #[.agg #[.bool t,.slice ao A.length D,C0 E]] w (.tuple #[CI (cU (aj A) E:Nat),.int .u8 (cD (aj A) E)]):=by
 obtain⟨d1,d2,d3,d4,d5⟩:=cS hr;have G:∀h,H8 w h->BS 169 #[.agg #[.bool t,.slice ao A.length D,C0 E]] h (C0 (IntKind.i64.wrap (fH A+E))):=fun h hb=>nF t ao D A E h (M.below hb) (by omega)
 rw[kf M.2.1 d1]at G
 by_cases N:A= []
 ·subst N
  have e1:cU (aj []) E=0:=by simp[cU,aj]
  have F:cD (aj []) E=0:=by simp[cD,aj]
  rw[e1,F];exact ww t ao D E _ w G
 ·have H:=Nv d1 N
  have K:0<A.length:=List.length_pos_iff.2 N;have ae:bl (aj A)<=16384:=by
   have h1:=cC (aj A) H;have h2:=mJ A M.2.1 512 d2;have:=dE (Nat.lt_of_le_of_lt h1.2.1 h2);omega
  have hw:IntKind.i64.wrap ((bl (aj A):Int)+E)=(bl (aj A):Int)+E:=by simp only[IntKind.wrap_i64];omega
  rw[hw]at G
  by_cases O:1024<(bl (aj A):Int)+E
  ·have e1:cU (aj A) E=9218868437227405312:=by unfold cU;rw[if_neg H,if_pos O]
   have F:cD (aj A) E=5:=by unfold cD;rw[if_neg H,if_pos O]
   rw[e1,F];exact wy t ao D A.length E _ w K O G
  ·have Q:=gj (aj A) E H (by omega)
   obtain⟨l1,l2,l3⟩:=dk (aj A) E;have U:=(eW (aj A) E H).1;have hN:=Pz (aj A) E H;have aa:=(cC (aj A) H).1;have Z:∀h,H8 w h->BS 281 #[.agg #[.bool t,.slice ao A.length D,C0 E],C0 (aP (aj A) E)] h (CI (gO (aj A) E:Nat)):=fun h hb=>
    wl t ao D A E _ h (M.below hb) hr N (by omega) (by omega) hN
   have l:max ((bl (aj A):Int)+E-53) (-1074)=aP (aj A) E:=rfl;have hk:aP (aj A) E+1074=((aP (aj A) E+1074).toNat:Int):=by omega
   have F:cD (aj A) E=if aP (aj A) E<=E then 0 else if cU (aj A) E=9218868437227405312 then 5 else if cU (aj A) E<4503599627370496 then 3 else 1:=by unfold cD;rw[if_neg H,if_neg O]
   by_cases J:aP (aj A) E<=E
   ·rw[F,if_pos J]
    exact wo t ao D A.length _ _ _ E _ _ w K (by omega) l hk (by omega) U G Z Q (decide_eq_true J)
   ·rw[if_neg J]at F
    by_cases g2:cU (aj A) E=9218868437227405312
    ·rw[F,if_pos g2]
     exact ws t ao D A.length _ _ _ E _ _ w K (by omega) l hk (by omega) U G Z Q (decide_eq_false J) (by simp;omega)
    ·rw[if_neg g2]at F
     have L:((cU (aj A) E:Int)==9218868437227405312)=false:=by simp;omega
     by_cases g3:cU (aj A) E<4503599627370496
     ·rw[F,if_pos g3]
      exact wt t ao D A.length _ _ _ E _ _ w K (by omega) l hk (by omega) U G Z Q (decide_eq_false J) L (decide_eq_true (by omega))
     ·rw[F,if_neg g3]
      exact wu t ao D A.length _ _ _ E _ _ w K (by omega) l hk (by omega) U G Z Q (decide_eq_false J) L (decide_eq_false (by omega))
def iJ(neg:Bool)(r:Nat):Nat:=if neg=true then r+9223372036854775808 else r
theorem gc(r:Nat):iJ true r=r+9223372036854775808:=if_pos rfl
theorem cJ(r:Nat):iJ false r=r:=if_neg Bool.false_ne_true
theorem Fl(r:Nat)(h:r<9223372036854775808):fN r=iJ true r:=by rw[gc];unfold fN;exact if_neg (by omega)
theorem wz(G:Bool)(ao:GY)(N:Nat)(A:H3)(E:Int)(w:World)(hA:ai w ao N A)(hr:np G A E=true)(hT:cX w):
  BS 229 #[.agg #[.bool G,.slice ao A.length N,C0 E]] w (.tuple #[CI (iJ G (cU (aj A) E):Nat),.int .u8 (cD (aj A) E),C0 0]):=by
 have la:=(cS hr).2.1;have Q:=ac (fun J h t=>j4 G ao N A E J h (by omega) t);have he:qL G A E=0:=by unfold qL;rw[hr];rfl
 rw[he]at Q;have CR:=ac (fun J h=>sS G ao N A E J h hr);have aa:=ej (aj A) E;have hn:fN (cU (aj A) E)=iJ true (cU (aj A) E):=Fl _ (by omega);have CM:=ac (fun J=>iZ (cU (aj A) E) J (by omega));rw[hn]at CM;clear he hr la;have I:=ac ((Below.refl w.heap.size w).alloc (Nat.le_refl _) (.cells #[.bool G,.slice ao A.length N,C0 E] 35));have X0:=ac (ar.new w (.bool G) (.slice ao A.length N) (C0 E));have O:=ac (hA.below (uH I));have HT:=ac (hT.all (uH I));have K:iJ false (cU (aj A) E)=cU (aj A) E:=cJ _;clear hA hT aa hn;generalize cD (aj A) E=fl at*;generalize cU (aj A) E=R at*
 cases G
 ·rw[K]
  clear CM K
  go_enter Tryz.func229,Tryz.ntmps229
  go_wp2_with fail;refine(uH Q _ (uH O) (uH HT)).mono ?_;rintro e w1 ⟨rfl,l⟩;have L:=ac ((uH I).trans (l.mono (uH I).size));have F:=(uH X0).all l;have M:=ac ((uH O).below l);have U:=F.c0;have Z:=F.c1;have y2:=F.c2;have X1:=ac F;clear l I Q O HT X0 F;go_wp2_with fail;refine(uH CR _ (uH M)).mono ?_;rintro e w2 ⟨rfl,D⟩;have B2:=ac ((uH L).trans (D.mono (uH L).size));have H:=(uH X1).all D;clear U Z y2;have U:=H.c0;have Z:=H.c1;have y2:=H.c2;clear D H CR L X1
  go_wp2
  exact bodyPost_ret (v:=.tuple #[CI R,.int .u8 fl,C0 0]) (by simp[results,Tryz.results229,go_sem]) rfl ⟨rfl,uH B2⟩
 ·clear K
  generalize iJ true R=R' at*
  go_enter Tryz.func229,Tryz.ntmps229
  go_wp2_with fail;refine(uH Q _ (uH O) (uH HT)).mono ?_;rintro e w1 ⟨rfl,l⟩;have L:=ac ((uH I).trans (l.mono (uH I).size));have F:=(uH X0).all l;have M:=ac ((uH O).below l);have U:=F.c0;have Z:=F.c1;have y2:=F.c2;have X1:=ac F;clear l I Q O HT X0 F;go_wp2_with fail;refine(uH CR _ (uH M)).mono ?_;rintro e w2 ⟨rfl,D⟩;have B2:=ac ((uH L).trans (D.mono (uH L).size));have H:=(uH X1).all D;clear U Z y2;have U:=H.c0;have Z:=H.c1;have y2:=H.c2;clear D H CR L X1
  go_wp2_with(go_at_call 162;refine(uH CM _).mono ?_;rintro e w3 ⟨rfl,rfl⟩)
  exact bodyPost_ret (v:=.tuple #[CI R',.int .u8 fl,C0 0]) (by simp[results,Tryz.results229,go_sem]) rfl ⟨rfl,uH B2⟩
theorem kK{w:World}{v:Value}{m e:Int}(h:aH w v m e)(D:m.natAbs<eE)(F:sR m e=true)(G:cX w):
  BS 229 #[v] w (.tuple #[CI (iJ (decide (m<0)) (cU m.natAbs e):Nat),.int .u8 (cD m.natAbs e),C0 0]):=by
 obtain⟨n,a,c,L,rfl,J,O,K,Q,M⟩:=h.right D;have l:n=decide (m<0):=by
  obtain⟨U,Z,c',L',t,_,_,N,_⟩:=h.parts;simp only[Value.agg.injEq,Array.mk.injEq,List.cons.injEq,Value.bool.injEq]at t;rw[t.1];exact N
 have I:aj L=m.natAbs:=by rw[<-K,aU]
 have:=wz n a c L e w J (M.trans F) G;rw[I,l]at this;rw[l];exact this
theorem Nw(b:Nat):(fM b).natAbs=fA b:=by unfold fM sg;split<;>simp
theorem Nx(b:Nat)(h:ah b=true):fP b<2047:=by
 have:=tE b;unfold ah at h
 simp at h
 omega
theorem Fm(b:Nat)(H:ah b=true):cU (fA b) (fE b)=b%9223372036854775808/\aP (fA b) (fE b)=fE b/\(bl (fA b):Int)+fE b<=1024:=by
 have L:=Nx b H;have I:b%9223372036854775808=fF b+fP b*4503599627370496:=by unfold fF fP;omega
 have J:=vM b;rw[I]
 by_cases l:fP b=0
 ·have D:fA b=fF b:=by unfold fA;rw[if_pos l]
  have F:fE b= -1074:=by unfold fE;rw[if_pos l]
  rw[D,F,l];generalize fF b=f at*
  by_cases G:f=0
  ·subst G
   exact⟨by simp[cU],by decide,by decide⟩
  ·obtain⟨M,N,O⟩:=cC f G
   have h:bl f<=52:=by
    have K:(2:Nat)^(bl f-1)<2^52:=by rw[Ng];omega
    have:=dE K;omega
   have t:aP f (-1074)= -1074:=by unfold aP;omega
   refine⟨?_,t,by omega⟩;rw[gj f _ G (by omega)];unfold gO;rw[t];have:=nz f 0
   simp at this
   simp[this]
 ·have D:fA b=fF b+4503599627370496:=by unfold fA;rw[if_neg l]
  have F:fE b=(fP b:Int)-1075:=by unfold fE;rw[if_neg l]
  rw[D,F];generalize fF b=f at*;generalize fP b=p at*;have h:bl (f+4503599627370496)=53:=vL (by decide) (by show 2^52<=_;rw[Ng];omega) (by rw[IF];omega);have t:aP (f+4503599627370496) ((p:Int)-1075)=(p:Int)-1075:=by unfold aP;rw[h];omega
  refine⟨?_,t,by rw[h];omega⟩;rw[gj _ _ (by omega) (by rw[h];omega)];unfold gO;rw[t];have:=nz (f+4503599627370496) 0
  simp at this
  rw[show(p:Int)-1075-((p:Int)-1075)=0 by omega,this];omega
theorem Fn(z:Int)(h:z≠0):z.natAbs=(oM z).natAbs*2^tz z.natAbs:=by
 have t:=(gN z h).1;have l:=congrArg Int.natAbs t;rw[Int.natAbs_mul,Int.natAbs_pow]at l;exact l
theorem lL(z:Int):decide (oM z<0)=decide (z<0):=by
 have h:=A1 z;unfold iw at h
 by_cases t:oM z<0
 ·rw[if_pos t]at h
  by_cases l:z<0
  ·rw[decide_eq_true t,decide_eq_true l]
  ·rw[if_neg l]at h
   split at h<;>omega
 ·rw[if_neg t]at h
  by_cases l:z<0
  ·rw[if_pos l]at h
   split at h<;>omega
  ·rw[decide_eq_false t,decide_eq_false l]
theorem lM(z e:Int):cU (oM z).natAbs (oE z e)=cU z.natAbs e/\(z≠0->aP (oM z).natAbs (oE z e)=aP z.natAbs e/\(bl (oM z).natAbs:Int)+oE z e=(bl z.natAbs:Int)+e):=by
 by_cases h:z=0
 ·subst h
  refine⟨by rw[bj];simp[cU],fun h=>absurd rfl h⟩
 ·have D:=Fn z h
  have l:(oM z).natAbs≠0:=by have:=(g6 z h).1;omega
  rw[dc z e h];generalize tz z.natAbs=k at*;rw[D,tC];refine⟨rfl,fun _=>?_⟩;have t:=ny (oM z).natAbs k l;refine⟨?_,by rw[t];omega⟩;unfold aP;rw[t]
  congr 1
  omega
end Go.Proofs.YtcbcmlaogehimaaGreatDoor
namespace Go.Proofs.YtcbcmlaogehimaaGreatDoor
theorem kg(n:Bool)(s:Nat)(h:s<9223372036854775808):fS (iJ n s)=n:=by
 unfold fS
 cases n
 ·rw[cJ];exact decide_eq_false (by omega)
 ·rw[gc];exact decide_eq_true (by omega)
theorem Ny(n:Bool)(s:Nat)(h:s<9223372036854775808):fP (iJ n s)=s/4503599627370496:=by
 unfold fP
 cases n
 ·rw[cJ];omega
 ·rw[gc];omega
theorem Nz(n:Bool)(s:Nat)(_h:s<9223372036854775808):fF (iJ n s)=s%4503599627370496:=by
 unfold fF
 cases n
 ·rw[cJ]
 ·rw[gc];omega
theorem NA(n:Bool)(s:Nat)(h:s<9218868437227405312):∃j:Nat,fE (iJ n s)= -1074+(j:Int)/\fM (iJ n s)*2^j=sg n (rv s):=by
 have t:=Ny n s (by omega);have D:=Nz n s (by omega);have F:=kg n s (by omega);unfold fM fE fA rv;rw[t,D,F]
 by_cases l:s<4503599627370496
 ·rw[if_pos (by omega),if_pos (by omega),if_pos l]
  refine⟨0,by simp,?_⟩;rw[Nat.mod_eq_of_lt l]
  simp
 ·rw[if_neg (by omega),if_neg (by omega),if_neg l]
  refine⟨s/4503599627370496-1,by omega,?_⟩;rw[Nat.add_comm 4503599627370496];generalize s%4503599627370496+4503599627370496=m;generalize s/4503599627370496-1=j;unfold sg
  cases n
  ·simp
  ·simp[Int.neg_mul]
open Go.RowKit
def pv(n:Bool)(r:Nat):Int:=if n=true then-(rv r:Int)else(rv r:Int)
theorem Db(n:Bool)(r:Nat)(h:r<9223372036854775808):(iJ n r/9223372036854775808%2==1)=n/\iJ n r%9223372036854775808=r:=by
 cases n
 ·rw[cJ];exact⟨by simp;omega,by omega⟩
 ·rw[gc];exact⟨by simp;omega,by omega⟩
theorem Ms{r s:Nat}(h:r<s):rv r<rv s:=Nat.lt_of_lt_of_le (um r) (j0 h)
def Dc(z l:Int):Int:=pv (decide (z<0)) (cU z.natAbs l)
theorem wA{z y l:Int}(h:z<=y):Dc z l<=Dc y l:=by
 unfold Dc pv
 by_cases t:z<0
 ·rw[decide_eq_true t,if_pos rfl]
  by_cases D:y<0
  ·rw[decide_eq_true D,if_pos rfl]
   have:=j0 (nA l (show y.natAbs<=z.natAbs by omega));omega
  ·rw[decide_eq_false D,if_neg (by decide)]
   omega
 ·rw[decide_eq_false t,decide_eq_false (show¬y<0 by omega),if_neg (by decide),if_neg (by decide)]
  have:=j0 (nA l (show z.natAbs<=y.natAbs by omega));omega
theorem jM(z lo:Int)(k:Nat)(h:z≠0->lo+k<=oE z lo):up (oM z) (oE z lo) (lo+k)*2^k=z:=by
 by_cases l:z=0
 ·subst l;rw[bj,gt];simp
 ·have t:=h l
  conv=>rhs;rw[<-kI z lo l]
  unfold up;rw[Int.mul_assoc,<-Int.pow_add]
  congr 2
  omega
theorem oO{lo:Int}{W:Nat}{z1 z2:Int}(F:ga lo W z1)(K:ga lo W z2)(L:¬(z1=0/\z2=0)):
  ∃k:Nat,cE (oM z1) (oE z1 lo) (oM z2) (oE z2 lo)=lo+k/\up (oM z1) (oE z1 lo) (lo+k)*2^k=z1/\up (oM z2) (oE z2 lo) (lo+k)*2^k=z2/\oE z1 lo-(lo+k)<=16384/\oE z2 lo-(lo+k)<=16384:=by
 have O:=F.2.1;have Q:=F.2.2.1;have U:=F.2.2.2;have H:∀z,ga lo W z->(z=0/\oM z=0/\oE z lo=0)\/(z≠0/\oM z≠0/\oE z lo=lo+(tz z.natAbs:Int)/\tz z.natAbs<W):=fun z M=>by
  by_cases e:z=0
  ·left;subst e;exact⟨rfl,bj,bL _⟩
  ·right;exact⟨e,(g6 z e).1,dc z lo e,M.tzs e⟩
 rcases H z1 F with⟨I,G,J⟩|⟨I,G,J,Z⟩
 ·rcases H z2 K with⟨l,t,D⟩|⟨l,t,D,N⟩
  ·exact absurd ⟨I,l⟩ L
  ·refine⟨tz z2.natAbs,?_,jM z1 lo _ (fun h=>absurd I h),jM z2 lo _ (fun _=>by omega),by omega,by omega⟩
   unfold cE;rw[if_pos G];exact D
 ·rcases H z2 K with⟨l,t,D⟩|⟨l,t,D,N⟩
  ·refine⟨tz z1.natAbs,?_,jM z1 lo _ (fun _=>by omega),jM z2 lo _ (fun h=>absurd l h),by omega,by omega⟩
   unfold cE;rw[if_neg G,if_pos t];exact J
  ·refine⟨min (tz z1.natAbs) (tz z2.natAbs),?_,jM z1 lo _ (fun _=>by omega),jM z2 lo _ (fun _=>by omega),by omega,by omega⟩
   rw[j7 _ _ _ _ G t,J,D];omega
theorem lN{u z:Int}{k:Nat}(h:u*2^k=z):u.natAbs<=z.natAbs:=by
 rw[<-h,Int.natAbs_mul,Int.natAbs_pow];exact Nat.le_mul_of_pos_right _ (Nat.pow_pos (by decide))
theorem ga.neg{lo:Int}{W:Nat}{z:Int}(h:ga lo W z):ga lo W (-z):=⟨by rw[Int.natAbs_neg];exact h.1,h.2⟩
theorem re{m e:Int}(h:sR m e=true):-16384<=e/\e<=16384:=by
 unfold sR at h
 by_cases l:m=0
 ·rw[if_pos l]at h;have:=of_decide_eq_true h;omega
 ·rw[if_neg l,Bool.and_eq_true]at h;exact of_decide_eq_true h.2
theorem Mt{w:World}{v u:Value}{lo:Int}{W:Nat}{z1 z2:Int}(hv:aH w v (oM z1) (oE z1 lo))(hu:aH w u (oM z2) (oE z2 lo))(D:ga lo W z1)(G:ga lo W z2):
  GF 58 #[v,u] w fun r L=>∃q,r=.returned q/\aH L q (oM (z1-z2)) (oE (z1-z2) lo)/\H8 w L:=by
 obtain⟨N,ao,O,A,rfl,Q,U,h,a4,a5⟩:=hv.right D.right.2;obtain⟨nb,bo,cb,B,rfl,b1,b2,l,b4,b5⟩:=hu.right G.right.2;have x1:=re D.right.1;have x2:=re G.right.1;have H:=Ns z2;have M:=G.neg;have t1:=D.tops;have t2:=M.tops
 by_cases h0:z1=0/\z2=0
 ·obtain⟨rfl,rfl⟩:=h0
  have hz:∀W:World,W=W:=fun _=>rfl
  rw[bj]at h l;rw[bL]at*;have eZ:dW 0 0 (-0) 0=0:=by decide
  have eU:gr 0 0 (cE 0 0 (-0) 0)=0:=fL _ _ _ (by rw[gt];exact j5) (by decide);have I:gr (-0) 0 (cE 0 0 (-0) 0)=0:=fL _ _ _ (by rw[Int.neg_zero,gt];exact j5) (by decide);have:=qU N nb ao bo O cb A B 0 0 w Q b1 U b2 (by omega) (by omega) (by rw[h,l];exact eU) (by rw[h,l];exact I);rw[h,l,eZ,bj,bL]at this
  simpa[bj,bL]using this
 ·obtain⟨k,t,e2,F,e4,e5⟩:=oO D M (by omega)
  have J:oE (-z2) lo=oE z2 lo:=H.2 lo;rw[H.1,J]at t;have aa:=F;rw[H.1,J]at F;rw[J]at e5;have g1:gr (oM z1) (oE z1 lo) (lo+k)=0:=fL _ _ _ (Nat.lt_of_le_of_lt (lN e2) t1) e4;have g2:gr (-oM z2) (oE z2 lo) (lo+k)=0:=fL _ _ _ (Nat.lt_of_le_of_lt (lN F) t2) e5;have:=qU N nb ao bo O cb A B _ _ w Q b1 U b2 x1 x2 (by rw[h,l,t];exact g1) (by rw[h,l,t];exact g2);rw[h,l,t]at this;have hZ:dW (oM z1) (oE z1 lo) (-oM z2) (oE z2 lo)*2^k=z1-z2:=by
   unfold dW;rw[t,Int.add_mul,e2,F,Int.sub_eq_add_neg]
  generalize dW (oM z1) (oE z1 lo) (-oM z2) (oE z2 lo)=Z at*;have K:=iy Z k lo;rw[hZ]at K;rw[K.1,K.2];exact this
theorem yW(u v:Int)(k:Nat):bY (u*2^k) (v*2^k)=bY u v:=by
 rw[qX,qX,<-Int.sub_mul,j8]
theorem Mu{w:World}{v u:Value}{lo:Int}{W:Nat}{z1 z2:Int}(D:aH w v (oM z1) (oE z1 lo))(F:aH w u (oM z2) (oE z2 lo))(h:ga lo W z1)(l:ga lo W z2):
  BS 33 #[v,u] w (C0 (bY z1 z2)):=by
 obtain⟨I,ao,J,A,rfl,K,a2,L,a4,M⟩:=D.right h.right.2;obtain⟨N,O,Q,B,rfl,U,b2,Z,b4,b5⟩:=F.right l.right.2;have:=uB I N ao O J Q A B _ _ w K U (M.trans h.right.1) (b5.trans l.right.1);rw[L,Z]at this;have H:nK (oM z1) (oE z1 lo) (oM z2) (oE z2 lo)=bY z1 z2:=by
  by_cases t:z1=0/\z2=0
  ·obtain⟨rfl,rfl⟩:=t
   rw[bj,bL];rfl
  ·obtain⟨k,e1,e2,e3,_,_⟩:=oO h l t
   unfold nK;rw[e1,<-yW _ _ k,e2,e3]
 rwa[H]at this
theorem PC(z:Int):oM (oM z)=oM z:=by
 by_cases h:z=0
 ·subst h;rw[bj,bj]
 ·have l:=g6 z h
  have:=(gN (oM z) l.1).unique (m':=oM z) (k':=0) ⟨by simp,l.2⟩;exact this.1
theorem PE(z e:Int)(h:z≠0):oE (oM z) e=e:=by
 have l:=g6 z h;have:=(gN (oM z) l.1).unique (m':=oM z) (k':=0) ⟨by simp,l.2⟩;rw[dc _ _ l.1,this.2];simp
end Go.Proofs.YtcbcmlaogehimaaGreatDoor
