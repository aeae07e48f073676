/- Part 42 of the texts. -/
import Derived.Test.YtlnphkioddknfaaGreatDoorParty41
set_option maxHeartbeats 8000000
set_option maxRecDepth 20000
namespace Go.Proofs.YtlnphkioddknfaaGreatDoor
open Go.RowKit
theorem vW{f:List Nat}(h:∀x∈f,aC x=true):jl 0 f=0↔jN f=true:=by
 obtain⟨y,z,m,d⟩:=EY f 0 (by decide) h
 constructor
 ·intro A
  exact List.all_eq_true.2 (fun x l=>decide_eq_true ((bs x).2 (by have:=m x l;omega)))
 ·intro t
  rcases d with d|⟨x,l,d⟩
  ·exact d
  ·rw[←d]
   exact(bs x).1 (Dc t x l)
theorem oC(I:List Int)(k:Nat):aU (I.drop k)=(aU I).drop k:=by
 unfold aU
 rw[List.map_drop]
theorem lL{w:World}{b d c:Nat}{I:List Int}(h:ac w (some ⟨b,d,none⟩) c I)(D:2≤I.length):ac w (some ⟨b,d+1,none⟩) (I.length-1) (I.drop 1):=by
 obtain⟨F,l,e,z,A⟩:=h.ne (by omega)
 simp only[Option.some.injEq,Addr.mk.injEq]at e
 obtain⟨rfl,rfl,_⟩:=e
 refine⟨by rw[List.length_drop];omega,fun x m=>h.2.1 x (List.mem_of_mem_drop m),.inr ⟨b,d+1,rfl,z,fun i t=>?_⟩⟩
 have f:1+i<I.length:=by rw[List.length_drop]at t;omega
 have y:=A (1+i) f
 rw[List.getElem?_drop,show d+1+i=d+(1+i) by omega,y,(h.wf (1+i)).1]
theorem Dt(I:List Int)(j:Nat):aM (I.drop 1) j=aM I (j+1):=by
 unfold aM
 rw[List.getElem?_drop,Nat.add_comm 1 j]
theorem oD{I:List Int}(h:fu I I.length=true):∀x∈(aU I).drop 1,aC x=true:=fun x d=>FA I (fun x=>aC x=true) ((mK _).1 h) x (List.mem_of_mem_drop d)
theorem vX(ao:Option Addr)(c:Nat)(I:List Int)(w:World)(y:ac w ao c I)(Q:1≤I.length)(K:I.length≤64)(D:fu I I.length=true)(L:jN ((aU I).drop 1)=true):
  Calls Tryz.prog 235 #[.slice ao I.length c] w fun e d=>∃A F,e=.returned (.tuple #[.slice A I.length F,.int .u64 0,.int .u64 (aM I 0:Nat),.int .i64 0])∧bH w.heap.size A (ar (oN (fun _=>0) I.length))∧ac d A F (ar (oN (fun _=>0) I.length))∧Below w.heap.size w d:=by
 obtain⟨b,t,rfl,U,N⟩:=y.ne (by omega)
 have G:=N 0 (by omega)
 have z:=cK _ c I w y (by omega)
 rw[D]at z
 have H:∀f w,(callFunc 257 f).run Tryz.prog w=.ok (.enter 257 f) w:=fun _ _=>by kernel_rfl
 have m:=y.1
 rcases Nat.lt_or_ge 1 I.length with g|g
 ·have R:=fun d (h:Below w.heap.size w d)=>lL (y.below h) g
  have e:((I.drop 1).length:Nat)=I.length-1:=by rw[List.length_drop]
  refine vV b t I.length c (aM I 0) w g K m G z (fun d h=>?_) (oN (fun _=>0) I.length) (fun d h=>?_)
  ·have B:=du _ _ (I.drop 1) d (R d h) (by omega)
   rw[jJ,oC,(vW (oD D)).2 L,e]at B
   exact B
  ·have O:=kj 257 #[] _ _ (I.drop 1) (fun _=>0) d H (R d h) (by omega) (fun _ _=>by show 0<18446744073709551616;decide) (fun l k _ _=>oB _ l)
   rw[e,show I.length-1+1=I.length by omega]at O
   exact O
 ·have M:I.length=1:=by omega
  rw[M]at m z⊢
  refine tN b t c (aM I 0) w m G z (fun d h=>du _ _ [] d (ac.nilAt _ _ _) (by simp)) (oN (fun _=>0) 1) (fun d h=>?_)
  exact kj 257 #[] _ _ [] (fun _=>0) d H (ac.nilAt _ _ _) (by simp) (fun _ _=>by show 0<18446744073709551616;decide) (fun l k _ _=>oB _ l)
theorem xw{I:List Int}(d:jN ((aU I).drop 1)=false):2≤I.length:=by
 rcases Nat.lt_or_ge I.length 2 with g|g
 ·rw[List.drop_eq_nil_of_le (by rw[cY];omega)]at d
  cases d
 ·exact g
theorem Du(ao:Option Addr)(c:Nat)(I:List Int)(w:World)(f:ac w ao c I)(l:I.length≤64)(y:fu I I.length=true)(m:jN ((aU I).drop 1)=false)(G:(aC (gO (aM I 0) ((aU I).drop 1))&&aC (ki (aM I 0) ((aU I).drop 1)))=false)(z:b7 w):
  Calls Tryz.prog 235 #[.slice ao I.length c] w fun e d=>e=.returned (.tuple #[.slice none 0 0,.int .u64 0,.int .u64 0,.int .i64 2])∧Below w.heap.size w d:=by
 have g:=xw m
 obtain⟨b,t,rfl,N,M⟩:=f.ne (by omega)
 have K:=M 0 (by omega)
 have A:=cK _ c I w f (by omega)
 rw[y]at A
 have R:=fun d (h:Below w.heap.size w d)=>lL (f.below h) g
 have e:((I.drop 1).length:Nat)=I.length-1:=by rw[List.length_drop]
 have D:=f.lt 0
 have L:(if mI (aU I)=true then pP (aU I)else fN (pP (aU I)))=gO (aM I 0) ((aU I).drop 1):=by
  unfold gO
  rw[←gE (by omega)]
 refine tO b t I.length c (aM I 0) (jl 0 ((aU I).drop 1)) (gO (aM I 0) ((aU I).drop 1)) (ki (aM I 0) ((aU I).drop 1)) w g l f.1 (fun H=>by rw[(vW (oD y)).1 H]at m;cases m) (gC _ _) (oq _ _ D) K A (fun d h=>?_) (fun d h=>?_) (fun d h=>ju _ _ d D (gC _ _) (z.all h)) (fun d ao h l=>?_)
 ·have B:=du _ _ (I.drop 1) d (R d h) (by omega)
  rw[jJ,oC,e]at B
  exact B
 ·have B:=qe _ c I d (f.below h) l (z.all h)
  rw[L]at B
  exact B
 ·have F:=cK ao 2 _ d l (by simp)
  rw[show fu [((gO (aM I 0) ((aU I).drop 1):Nat):Int),((ki (aM I 0) ((aU I).drop 1):Nat):Int)] [((gO (aM I 0) ((aU I).drop 1):Nat):Int),((ki (aM I 0) ((aU I).drop 1):Nat):Int)].length=false from(show fu [((gO (aM I 0) ((aU I).drop 1):Nat):Int),((ki (aM I 0) ((aU I).drop 1):Nat):Int)] 2=_ from by show((true&&aC (gO (aM I 0) ((aU I).drop 1)))&&aC (ki (aM I 0) ((aU I).drop 1)))=_;rw[Bool.true_and,G])]at F
  exact F
theorem zp(ao:Option Addr)(c:Nat)(I:List Int)(w:World)(l:ac w ao c I)(y:I.length≤64)(K:fu I I.length=true)(z:jN ((aU I).drop 1)=false)(Q:(aC (gO (aM I 0) ((aU I).drop 1))&&aC (ki (aM I 0) ((aU I).drop 1)))=true)(m:b7 w):
  Calls Tryz.prog 235 #[.slice ao I.length c] w fun e d=>∃G M,e=.returned (.tuple #[.slice G I.length M,.int .u64 (dV (aV (gO (aM I 0) ((aU I).drop 1)) (fN (aM I 0))) (gO (aM I 0) ((aU I).drop 1)):Nat),.int .u64 (gO (aM I 0) ((aU I).drop 1):Nat),.int .i64 0])∧bH w.heap.size G (ar (oN (fun j=>dV (aM I (j+1)) (ki (aM I 0) ((aU I).drop 1))) I.length))∧ac d G M (ar (oN (fun j=>dV (aM I (j+1)) (ki (aM I 0) ((aU I).drop 1))) I.length))∧Below w.heap.size w d:=by
 have g:=xw z
 obtain⟨b,H,rfl,D,hc⟩:=l.ne (by omega)
 have Y:=hc 0 (by omega)
 have N:=cK _ c I w l (by omega)
 rw[K]at N
 have R:=fun d (h:Below w.heap.size w d)=>lL (l.below h) g
 have e:((I.drop 1).length:Nat)=I.length-1:=by rw[List.length_drop]
 have t:=l.lt 0
 have Z:(if mI (aU I)=true then pP (aU I)else fN (pP (aU I)))=gO (aM I 0) ((aU I).drop 1):=by
  unfold gO
  rw[←gE (by omega)]
 have cf:∀f w,(callFunc 259 f).run Tryz.prog w=.ok (.enter 259 f) w:=fun _ _=>by kernel_rfl
 refine Ds b H I.length c (aM I 0) (jl 0 ((aU I).drop 1)) (gO (aM I 0) ((aU I).drop 1)) (ki (aM I 0) ((aU I).drop 1)) (aV (gO (aM I 0) ((aU I).drop 1)) (fN (aM I 0))) _ w g y l.1 (fun U=>by rw[(vW (oD K)).1 U]at z;cases z) (gC _ _) (oq _ _ t) Y N (fun d h=>?_) (fun d h=>?_) (fun d h=>ju _ _ d t (gC _ _) (m.all h)) (fun d ao h y=>?_) (oN (fun j=>dV (aM I (j+1)) (ki (aM I 0) ((aU I).drop 1))) I.length) (fun d L h V=>?_) (fun d h=>ju _ _ d (gC _ _) t (m.all h)) (fun d h=>ov _ _ d (kG _ _ (gC _ _) (jR _ t)) (gC _ _) (m.all h))
 ·have B:=du _ _ (I.drop 1) d (R d h) (by omega)
  rw[jJ,oC,e]at B
  exact B
 ·have B:=qe _ c I d (l.below h) y (m.all h)
  rw[Z]at B
  exact B
 ·have F:=cK ao 2 _ d y (by simp)
  rw[show fu [((gO (aM I 0) ((aU I).drop 1):Nat):Int),((ki (aM I 0) ((aU I).drop 1):Nat):Int)] [((gO (aM I 0) ((aU I).drop 1):Nat):Int),((ki (aM I 0) ((aU I).drop 1):Nat):Int)].length=true from(show fu [((gO (aM I 0) ((aU I).drop 1):Nat):Int),((ki (aM I 0) ((aU I).drop 1):Nat):Int)] 2=_ from by show((true&&aC (gO (aM I 0) ((aU I).drop 1)))&&aC (ki (aM I 0) ((aU I).drop 1)))=_;rw[Bool.true_and,Q])]at F
  exact F
 ·have O:=kj 259 #[.pointer (some ⟨L,0,none⟩)] _ _ (I.drop 1) (fun j=>dV (aM I (j+1)) (ki (aM I 0) ((aU I).drop 1))) d cf (R d h) (by omega) (fun _ _=>nA _ _) (fun A k D X=>by
   rw[Dt]
   exact vU _ _ L A (l.lt _) (oq _ _ t) (ah V D) ((m.all h).all D))
  rw[e,show I.length-1+1=I.length by omega]at O
  exact O
theorem Dv(ao:Option Addr)(c:Nat)(I:List Int)(w:World)(l:ac w ao c I)(f:1≤I.length)(m:I.length≤64)(t:fu I I.length=true)(y:Da (aU I)=true)(G:b7 w):
  Calls Tryz.prog 235 #[.slice ao I.length c] w fun e d=>∃h z,e=.returned (.tuple #[.slice h I.length z,.int .u64 (mJ (aU I):Nat),.int .u64 (DP (aU I):Nat),.int .i64 0])∧bH w.heap.size h (ar (kp (aU I)))∧ac d h z (ar (kp (aU I)))∧Below w.heap.size w d:=by
 obtain⟨A,D,F⟩:=kW f
 cases hn:jN ((aU I).drop 1)
 ·rw[hn,Bool.false_or]at F
  rw[F]at y
  rw[A,D,hn,if_neg (by decide),if_neg (by decide),rl f (fun x=>dV x (ki (aM I 0) ((aU I).drop 1))) (fun x=>by rw[hn,if_neg (by decide)])]
  exact zp ao c I w l m t hn y G
 ·rw[A,D,hn,if_pos rfl,if_pos rfl,rl f (fun _=>0) (fun x=>by rw[hn,if_pos rfl])]
  exact vX ao c I w l f m t hn
theorem vY(ao:Option Addr)(c:Nat)(I:List Int)(w:World)(l:ac w ao c I)(m:1≤I.length)(t:I.length≤64)(y:fu I I.length=true)(z:Da (aU I)=false)(A:b7 w):
  Calls Tryz.prog 235 #[.slice ao I.length c] w fun e f=>∃D F,e=.returned (.tuple #[.slice D 0 F,.int .u64 0,.int .u64 0,.int .i64 2])∧Below w.heap.size w f:=by
 obtain⟨_,_,h⟩:=kW m
 rw[z]at h
 have d:=h.symm
 rw[Bool.or_eq_false_iff]at d
 refine(Du ao c I w l t y d.1 d.2 A).mono ?_
 rintro e H ⟨rfl,G⟩
 exact⟨_,_,rfl,G⟩
theorem zq(ao:Option Addr)(c:Nat)(I:List Int)(w:World)(h:ac w ao c I)(l:1≤I.length)(m:I.length≤64)(t:fu I I.length=false):
  Calls Tryz.prog 235 #[.slice ao I.length c] w fun e d=>∃y z,e=.returned (.tuple #[.slice y 0 z,.int .u64 0,.int .u64 0,.int .i64 4])∧Below w.heap.size w d:=by
 have f:=cK ao c I w h (by omega)
 rw[t]at f
 refine(zn ao I.length c w l m f).mono ?_
 rintro e D ⟨rfl,A⟩
 exact⟨_,_,rfl,A⟩
attribute [local go_sem ↓] Go.wp_at_zero Go.wp_at_succ
theorem vZ(t x y p o k n m c d K l L:Nat)(A D F G:Nat)(w:World)(hk:k<n)(hm:k<m)
  (M:w.cell? ⟨K,0,none⟩=some (.slice (some ⟨A,D,none⟩) n c)) (N:w.cell? ⟨l,0,none⟩=some (.slice (some ⟨F,G,none⟩) m d)) (O:w.cell? ⟨L,0,none⟩=some (.int .u64 (t:Nat)))
  (Q:w.cell? ⟨A,D+k,none⟩=some (.int .u64 (x:Nat))) (U:w.cell? ⟨F,G+k,none⟩=some (.int .u64 (y:Nat)))
  (V:∀f,Below w.heap.size w f→Calls Tryz.prog 165 #[.int .u64 t,.int .u64 y] f fun r z=>r=.returned (.int .u64 (p:Nat))∧Below f.heap.size f z)
  (X:∀f,Below w.heap.size w f→Calls Tryz.prog 164 #[.int .u64 x,.int .u64 p] f fun r z=>r=.returned (.int .u64 (o:Nat))∧Below f.heap.size f z):
  Calls Tryz.prog 274 #[.int .i64 k,.pointer (some ⟨K,0,none⟩),.pointer (some ⟨L,0,none⟩),.pointer (some ⟨l,0,none⟩)] w fun e f=>e=.returned (.int .u64 (o:Nat))∧Below w.heap.size w f:=by
 have Z:=aa V;have K2:=aa X
 have ae:(k:Int)<(n:Int):=by omega
 have aj:(k:Int)<(m:Int):=by omega
 have Y:=aa (fun f (h:Below w.heap.size w f)=>(show Below w.heap.size w f∧f.cell? ⟨K,0,none⟩=some (.slice (some ⟨A,D,none⟩) n c)∧f.cell? ⟨l,0,none⟩=some (.slice (some ⟨F,G,none⟩) m d)∧f.cell? ⟨A,D+k,none⟩=some (.int .u64 (x:Nat))∧f.cell? ⟨F,G+k,none⟩=some (.int .u64 (y:Nat))∧f.cell? ⟨L,0,none⟩=some (.int .u64 (t:Nat))from
  ⟨h,ah M h,ah N h,ah Q h,ah U h,ah O h⟩))
 clear V X M N Q U O
 go_enter Tryz.func274,Tryz.ntmps274
 go_wp2_with fail
 go_region_held3(fun f=>Below w.heap.size w f∧f.cell? ⟨K,0,none⟩=some (.slice (some ⟨A,D,none⟩) n c)∧f.cell? ⟨l,0,none⟩=some (.slice (some ⟨F,G,none⟩) m d)∧f.cell? ⟨A,D+k,none⟩=some (.int .u64 (x:Nat))∧f.cell? ⟨F,G+k,none⟩=some (.int .u64 (y:Nat))∧f.cell? ⟨L,0,none⟩=some (.int .u64 (t:Nat)))
  (first|exact uH Y _ (Below.refl _ _).drew|exact uH Y _ (by assumption)|fail "KK")
  (first|(go_at_call 165;refine(uH Z _ (And.left (by assumption))).mono ?_;rintro e w1 ⟨rfl,H⟩;have ak:Below w.heap.size w w1:=Below.trans (And.left (by assumption)) (H.mono (Below.size (And.left (by assumption))));clear H)|(go_at_call 164;refine(uH K2 _ (And.left (by assumption))).mono ?_;rintro e w2 ⟨rfl,I⟩;have am:Below w.heap.size w w2:=Below.trans (And.left (by assumption)) (I.mono (Below.size (And.left (by assumption))));clear I)|fail "NO ARM")
 go_wp2
 go_ret
 exact⟨rfl,And.left (by assumption)⟩
structure IG (w:World) (v:Value) (H:Nat) (xo vo:Option Addr) (n xc m vc t:Nat):Prop where
 ex:∃bx bt bv,v=.func (.func 274) #[] #[.pointer (some ⟨bx,0,none⟩),.pointer (some ⟨bt,0,none⟩),.pointer (some ⟨bv,0,none⟩)]∧H≤bx∧H≤bt∧H≤bv∧w.cell? ⟨bx,0,none⟩=some (.slice xo n xc)∧w.cell? ⟨bt,0,none⟩=some (.int .u64 (t:Nat))∧w.cell? ⟨bv,0,none⟩=some (.slice vo m vc)
theorem zr(y G:Option Addr)(n z m H I d t:Nat)(w:World)
  (O:∀l,Below w.heap.size w l→Calls Tryz.prog 183 #[.slice G m H,.slice y n z] l fun e A=>e=.returned (.tuple #[.int .u64 (d:Nat),.int .i64 0])∧Below l.heap.size l A)
  (Q:∀l,Below w.heap.size w l→Calls Tryz.prog 165 #[.int .u64 I,.int .u64 d] l fun e A=>e=.returned (.int .u64 (t:Nat))∧Below l.heap.size l A):
  Calls Tryz.prog 260 #[.slice y n z,.slice G m H,.int .u64 I] w fun e l=>∃v,e=.returned v∧IG l v w.heap.size y G n z m H t∧Below w.heap.size w l:=by
 have U:=aa O;have V:=aa Q
 clear O Q
 have L:=ab w (.cells #[.slice y n z] 22)
 have X:=cU w (.slice y n z) 22
 have Y:=ad w (.cells #[.slice y n z] 22)
 have M:=ab (w.alloc (.cells #[.slice y n z] 22)) (.cells #[.slice G m H] 22)
 have N:=cU (w.alloc (.cells #[.slice y n z] 22)) (.slice G m H) 22
 have Z:=ah X M
 rw[Y]at N
 have h:=aa (show Below w.heap.size w ((w.alloc (.cells #[.slice y n z] 22)).alloc (.cells #[.slice G m H] 22))from L.trans (M.mono L.size))
 have D:=aa Z;have F:=aa N
 clear L X Y M N Z
 go_enter Tryz.func260,Tryz.ntmps260
 go_wp2_with fail
 refine(uH U _ (uH h)).mono ?_
 rintro e w1 ⟨rfl,f⟩
 replace D:=aa (ah (uH D) f)
 replace F:=aa (ah (uH F) f)
 replace h:=aa ((uH h).trans (f.mono (uH h).size))
 clear f U
 go_wp2_with fail
 refine(uH V _ (uH h)).mono ?_
 rintro e w2 ⟨rfl,f⟩
 replace D:=aa (ah (uH D) f)
 replace F:=aa (ah (uH F) f)
 replace h:=aa ((uH h).trans (f.mono (uH h).size))
 clear f V
 have K:=ab w2 (.cells #[.int .u64 (t:Nat)] 37)
 have x3:=aa (cU w2 (.int .u64 (t:Nat)) 37)
 replace D:=aa (ah (uH D) K)
 replace F:=aa (ah (uH F) K)
 have HS:=aa (uH h).size
 replace h:=aa ((uH h).trans (K.mono (uH h).size))
 clear K
 go_wp2
 go_ret
 exact⟨_,rfl,⟨_,_,_,rfl,Nat.le_refl _,uH HS,Nat.le_succ _,uH D,uH x3,uH F⟩,uH h⟩
theorem v7(m t:Option Addr)(y z h:Nat)(f d:List Nat)(w:World)(H:ac w m y (ar f))(I:ac w t z (ar d))(A:f.length=d.length)(K:d.length≤64)(L:h<18446744073709551616)(G:b7 w):
  Calls Tryz.prog 260 #[.slice m f.length y,.slice t d.length z,.int .u64 h] w fun e l=>∃v,e=.returned v∧IG l v w.heap.size m t f.length y d.length z (mV h (u9 0 d f))∧Below w.heap.size w l:=by
 refine zr m t f.length y d.length z h (u9 0 d f) _ w (fun l F=>?_) (fun l F=>?_)
 ·have D:=s9 t m z y (ar d) (ar f) l (I.below F) (H.below F) (G.all F)
  have g:Ig (ar d) (ar f)=true:=decide_eq_true ⟨by rw[al];exact K,by rw[al,al,A]⟩
  rw[if_pos g,if_pos g,rg (ar d) (ar f) (ar d).length (Nat.le_refl _) (by rw[al,al,A];exact Nat.le_refl _),cR,cR,al,al,List.take_of_length_le (Nat.le_refl _),List.take_of_length_le (by rw[A];exact Nat.le_refl _)]at D
  exact D
 ·refine kQ h (u9 0 d f) l L ?_ (G.all F)
  have:=gX (ar d) (ar f) (ar d).length
  rwa[rg (ar d) (ar f) (ar d).length (Nat.le_refl _) (by rw[al,al,A];exact Nat.le_refl _),cR,cR,al,List.take_of_length_le (Nat.le_refl _),List.take_of_length_le (by rw[A];exact Nat.le_refl _)]at this
structure kY (w wr:World) (r c n cap:Nat) (ao:Option Addr) (S:List Nat):Prop where
 bel:Below w.heap.size w wr
 m:aq wr w.heap.size (.int .i64 r) (.int .i64 c) (.slice ao n cap)
 res:aq wr (w.heap.size+1) (.int .i64 0) (.int .i64 0) (.slice none 0 0)
 row:aY wr (w.heap.size+1+1) S
theorem kY.all{w wr f:World}{r c n cap:Nat}{ao:Option Addr}{S:List Nat}(h:kY w wr r c n cap ao S)(d:Below wr.heap.size wr f):kY w f r c n cap ao S:=
 ⟨h.bel.trans (d.mono h.bel.size),h.m.all d,h.res.all d,h.row.below d h.row.lt⟩
theorem kY.set{w wr:World}{r c n cap:Nat}{ao:Option Addr}{S:List Nat}(h:kY w wr r c n cap ao S)(p x:Nat):kY w (wr.setCell ⟨w.heap.size+1+1,p,none⟩ (.int .u64 (x:Int))) r c n cap ao (S.set p x):=
 ⟨h.bel.setCell (p:=⟨w.heap.size+1+1,p,none⟩) (by show w.heap.size≤w.heap.size+1+1;omega) _,h.m.other (p:=⟨w.heap.size+1+1,p,none⟩) (by show w.heap.size≠w.heap.size+1+1;omega) _,h.res.other (p:=⟨w.heap.size+1+1,p,none⟩) (by show w.heap.size+1≠w.heap.size+1+1;omega) _,h.row.set p x⟩
theorem kY.start(w:World)(r c n cap:Nat)(ao:Option Addr):
  kY w (((w.alloc (.cells #[.int .i64 r,.int .i64 c,.slice ao n cap] 24)).alloc (.cells #[.int .i64 0,.int .i64 0,.slice none 0 0] 24)).alloc (.cells (madeCells #[.int .u64 0] n) 37)) r c n cap ao (List.replicate n 0):=by
 have h:=ab w (.cells #[.int .i64 r,.int .i64 c,.slice ao n cap] 24)
 have D:=ad w (.cells #[.int .i64 r,.int .i64 c,.slice ao n cap] 24)
 have F:=aq.new w (.int .i64 r) (.int .i64 c) (.slice ao n cap)
 generalize w.alloc (.cells #[.int .i64 r,.int .i64 c,.slice ao n cap] 24)=d at*
 have l:=ab d (.cells #[.int .i64 0,.int .i64 0,.slice none 0 0] 24)
 have m:=ad d (.cells #[.int .i64 0,.int .i64 0,.slice none 0 0] 24)
 have t:=aq.new d (.int .i64 0) (.int .i64 0) (.slice none 0 0)
 generalize d.alloc (.cells #[.int .i64 0,.int .i64 0,.slice none 0 0] 24)=A at*
 have f:=ab A (.cells (madeCells #[.int .u64 0] n) 37)
 have y:=aY.made A n
 rw[D]at t m
 rw[m]at y
 have z:=h.trans (l.mono h.size)
 exact⟨z.trans (f.mono z.size),(F.all l).all f,t.all f,y⟩
theorem kY.copied{w wr d:World}{r c n cap:Nat}{ao:Option Addr}{S T:List Nat}(h:kY w wr r c n cap ao S)(f:Below (w.heap.size+1+1) wr d)(l:aY d (w.heap.size+1+1) T):kY w d r c n cap ao T:=
 ⟨h.bel.trans (f.mono (by omega)),h.m.below f (by omega),h.res.below f (by omega),l⟩
structure rq (w wr:World) (r c n cap:Nat) (ao:Option Addr) (S:List Nat) (bx bt bv:Nat) (po vo:Option Addr) (L pc vc t:Nat) (X:List Int):Prop where
 st:kY w wr r c n cap ao S
 lx:w.heap.size+1+1+1≤bx
 lt:w.heap.size+1+1+1≤bt
 lv:w.heap.size+1+1+1≤bv
 cx:wr.cell? ⟨bx,0,none⟩=some (.slice po L pc)
 ct:wr.cell? ⟨bt,0,none⟩=some (.int .u64 (t:Nat))
 cv:wr.cell? ⟨bv,0,none⟩=some (.slice vo L vc)
 x:ac wr po pc X
 nx:bH (w.heap.size+1+1+1) po X
theorem rq.all{w wr f:World}{r c n cap:Nat}{ao:Option Addr}{S:List Nat}{l m y:Nat}{z A:Option Addr}{L D F t:Nat}{X:List Int}(h:rq w wr r c n cap ao S l m y z A L D F t X)(d:Below wr.heap.size wr f):rq w f r c n cap ao S l m y z A L D F t X:=
 ⟨h.st.all d,h.lx,h.lt,h.lv,ah h.cx d,ah h.ct d,ah h.cv d,h.x.below d,h.nx⟩
theorem rq.set{w wr:World}{r c n cap:Nat}{ao:Option Addr}{S:List Nat}{d f l:Nat}{m y:Option Addr}{L z A t:Nat}{X:List Int}(h:rq w wr r c n cap ao S d f l m y L z A t X)(p x:Nat):rq w (wr.setCell ⟨w.heap.size+1+1,p,none⟩ (.int .u64 (x:Int))) r c n cap ao (S.set p x) d f l m y L z A t X:=by
 have D:=h.lx;have F:=h.lt;have G:=h.lv
 refine⟨h.st.set p x,D,F,G,?_,?_,?_,h.x.far h.nx (by omega) p _,h.nx⟩
 ·rw[ap _ _ _ _ (show d≠w.heap.size+1+1 by omega)];exact h.cx
 ·rw[ap _ _ _ _ (show f≠w.heap.size+1+1 by omega)];exact h.ct
 ·rw[ap _ _ _ _ (show l≠w.heap.size+1+1 by omega)];exact h.cv
theorem tP(r c n cap i k L O aj:Nat)(ao Q:Option Addr)(T:Nat→Nat→List Nat)(X:Nat→List Int)(P U:Nat→Nat→Nat)(t:Nat→Nat)(w:World)(bb:n≤36)(h6:c≤6)(bc:r≤6)(be:i+L≤r)(hk:k≤c)
  (l:ac w ao cap (ar (T k 0))) (lT:∀d j,(T d j).length=n) (F:∀d,T d L=T (d+1) 0)
  (hP:∀d j,k≤d→d<c→j<L→P d j<n∧(i+j)*c+d=P d j∧(T d j).set (P d j) (U d j)=T d (j+1))
  (C1:∀f d,Below w.heap.size w f→k≤d→d<c→Calls Tryz.prog 125 #[.agg #[.int .i64 r,.int .i64 c,.slice ao n cap],.int .i64 i,.int .i64 (d:Nat),.int .i64 L,.int .i64 1] f fun e A=>∃h y,e=.returned (.tuple #[.agg #[.int .i64 L,.int .i64 1,.slice h L y],.int .i64 0])∧bH f.heap.size h (X d)∧ac A h y (X d)∧Below f.heap.size f A)
  (C2:∀f d h y,Below w.heap.size w f→k≤d→d<c→ac f h y (X d)→Calls Tryz.prog 260 #[.slice h L y,.slice Q L O,.int .u64 aj] f fun e A=>∃v,e=.returned v∧IG A v f.heap.size h Q L y L O (t d)∧Below f.heap.size f A)
  (C3:∀f d j h y V Y Z,Below w.heap.size w f→k≤d→d<c→j<L→ac f h y (X d)→f.cell? ⟨V,0,none⟩=some (.slice h L y)→f.cell? ⟨Y,0,none⟩=some (.int .u64 (t d:Nat))→f.cell? ⟨Z,0,none⟩=some (.slice Q L O)→Calls Tryz.prog 274 #[.int .i64 (j:Nat),.pointer (some ⟨V,0,none⟩),.pointer (some ⟨Y,0,none⟩),.pointer (some ⟨Z,0,none⟩)] f fun e A=>e=.returned (.int .u64 (U d j:Nat))∧Below f.heap.size f A):
  Calls Tryz.prog 237 #[.agg #[.int .i64 r,.int .i64 c,.slice ao n cap],.int .i64 i,.int .i64 k,.slice Q L O,.int .u64 aj] w fun e f=>∃g,e=.returned (.agg #[.int .i64 r,.int .i64 c,.slice (some ⟨g,0,none⟩) n n])∧w.heap.size≤g∧aY f g (T c 0)∧Below w.heap.size w f:=by
 have z:=aa (kY.start w r c n cap ao)
 have a0:=run_make_row' (P:=Tryz.prog) 22 37 (.int .u64 0) 8 Tryz.underlying22 (by kernel_rfl) rfl .i64 .i64 n (by omega) (by omega)
 have HP:=aa hP;have K1:=aa C1;have K2:=aa C2;have K3:=aa C3;have LT:=aa lT;have HX:=aa F
 obtain⟨w5,a7,ax,aI⟩:=Dl _ (w.heap.size+1+1) n cap ao (T k 0) (uH z).row (l.below (uH z).bel) (lT k 0)
 have ak:=aa ((uH z).copied aI ax)
 clear hP C1 C2 C3 lT l ax aI F
 have y0:=(uH z).m.c0;have K:=(uH z).m.c1;have y2:=(uH z).m.c2
 go_enter Tryz.func237,Tryz.ntmps237
 go_wp2_with fail
 clear a0 a7 y0 K y2 z
 go_loopw[12] (fun a wr=>∃d:Nat,k≤d∧d≤c∧a=.int .i64 d∧Hid (kY w wr r c n cap ao (T d 0))) (fun a _=>c-(intOf a).toNat)
 case atStart=>exact⟨k,Nat.le_refl _,hk,rfl,ak⟩
 case round=>
  clear ak
  obtain⟨d,H,bn,rfl,l⟩:=hrel
  by_cases G:d<c
  ·have bi:(d:Int)<(c:Int):=by omega
   have y0:=(uH l).m.c0;have K:=(uH l).m.c1;have y2:=(uH l).m.c2
   go_wp2_with fail
   clear y0 K y2
   refine(uH K1 _ d (uH l).bel H G).mono ?_
   rintro e w2 ⟨h,y,rfl,hn,hx,D⟩
   have S2:=aa ((uH l).all D)
   have HN:=aa (bH.least hn (show w.heap.size+1+1+1≤wr.heap.size from(uH l).row.lt))
   have HB:=aa hx
   clear hn hx D l
   go_wp2_with fail
   have ba:=ab w2 (.cells #[.int .i64 L,.int .i64 1,.slice h L y] 24)
   replace S2:=aa ((uH S2).all ba)
   replace HB:=aa ((uH HB).below ba)
   clear ba
   have HL:=aa (show w.heap.size+1+1+1≤(w2.alloc (.cells #[.int .i64 L,.int .i64 1,.slice h L y] 24)).heap.size from(uH S2).row.lt)
   refine(uH K2 _ d h y (uH S2).bel H G (uH HB)).mono ?_
   rintro e w3 ⟨v,rfl,hv,D⟩
   obtain⟨V,Y,Z,rfl,l1,l2,l3,c1,c2,c3⟩:=hv.ex
   have S3:=aa (show rq w w3 r c n cap ao (T d 0) V Y Z h Q L y O (t d) (X d)from⟨(uH S2).all D,Nat.le_trans (uH HL) l1,Nat.le_trans (uH HL) l2,Nat.le_trans (uH HL) l3,c1,c2,c3,(uH HB).below D,uH HN⟩)
   clear hv D l1 l2 l3 c1 c2 c3 S2 HN HB HL
   have KC:=aa (fun f j D hj hx I h2 h3=>uH K3 f d j h y V Y Z D H G hj hx I h2 h3)
   have a1:=aa (fun j hj=>uH HP d j H G hj)
   have a2:=aa (uH LT d)
   have a3:=aa (uH HX d)
   generalize bo:T d=TD at*
   generalize bq:U d=UD at*
   generalize br:P d=PD at*
   generalize t d=td at*
   generalize X d=XD at*
   go_wp2_with fail
   go_loopw[48] (fun a wr=>∃j:Nat,j≤L∧a=.int .i64 j∧Hid (rq w wr r c n cap ao (TD j) V Y Z h Q L y O td XD)) (fun a _=>L-(intOf a).toNat)
   case atStart=>exact⟨0,Nat.zero_le _,rfl,S3⟩
   case round=>
    clear S3
    obtain⟨j,hj,rfl,l⟩:=hrel
    by_cases am:j<L
    ·have bj:(j:Int)<(L:Int):=by omega
     obtain⟨hp,ae,M⟩:=uH a1 j am
     have KJ:=aa (fun f D hx I h2 h3=>uH KC f j D am hx I h2 h3)
     have LL:=aa (uH a2 j);have HN:=aa M
     clear M
     obtain⟨a,ha⟩:∃a,i+j=a:=⟨_,rfl⟩
     rw[ha]at ae
     obtain⟨q,hq⟩:∃q,a*c=q:=⟨_,rfl⟩
     rw[hq]at ae
     have e1:IntKind.i64.wrap ((i:Int)+(j:Int))=(a:Int):=(aP _ (by omega)).trans (by omega)
     have e2:IntKind.i64.wrap ((a:Int)*(c:Int))=(q:Int):=by
      rw[bd a c,hq]
      exact aP _ (by omega)
     have e3:IntKind.i64.wrap ((q:Int)+(d:Int))=(PD j:Int):=(aP _ (by omega)).trans (by omega)
     have e4:(i:Int)+(j:Int)=(a:Int):=by omega
     have e5:(a:Int)*(c:Int)=(q:Int):=by rw[bd a c,hq]
     have e6:(q:Int)+(d:Int)=(PD j:Int):=by omega
     have w1:IntKind.i64.wrap (a:Int)=(a:Int):=aP _ (by omega)
     have w2:IntKind.i64.wrap (q:Int)=(q:Int):=aP _ (by omega)
     have w3:IntKind.i64.wrap (PD j:Int)=(PD j:Int):=aP _ (by omega)
     generalize bw:TD j=TT at*
     generalize a9:TD (j+1)=TN at*
     generalize PD j=p at*
     generalize UD j=u at*
     have bm:(p:Int)<(n:Int):=by omega
     clear hq ae ha
     go_wp2_with fail
     refine au (fun W=>rq w W r c n cap ao TT V Y Z h Q L y O td XD) (uH l) ?_
     clear l
     intro W st
     have z:=aa (st.all ((Below.refl W.heap.size W).drew))
     clear st
     have K:=(uH z).st.m.c1
     go_region_with (first
      |(go_at_call 274;refine(uH KJ _ (uH z).st.bel (uH z).x (uH z).cx (uH z).ct (uH z).cv).mono ?_;rintro e w8 ⟨rfl,D⟩;clear K;have S8:=(uH z).all D;have K:=S8.st.m.c1;have d1:=S8.st.row.cell p (by rw[uH LL];exact hp);have a4:=S8.st.row.free p;have P9:=aa (S8.set p u);clear S8 D z KJ)
      |fail "NO ARM")
     all_goals
      clear d1 a4 K
      go_wp2_with fail
      go_round
      case rel=>exact⟨j+1,by omega,by go_num,by rw[a9,←uH HN];exact P9⟩
      case measure=>simp[intOf];omega
    ·have a5:j=L:=by omega
     subst a5
     have S4:=aa (uH l).st
     rw[uH a3]at S4
     clear l
     go_wp2_with fail
     go_round
     case rel=>exact⟨d+1,by omega,by omega,by go_num,S4⟩
     case measure=>simp[intOf];omega
  ·have a6:d=c:=by omega
   subst a6
   obtain⟨h6,I,N,h5⟩:=uH l
   have y0:=I.c0;have K:=I.c1;have y2:=I.c2
   have r0:=N.c0;have r1:=N.c1;have r2:=N.c2
   have f0:=N.free 0;have f1:=N.free 1;have f2:=N.free 2
   have XP:=N.put (.int .i64 r) (.int .i64 d) (.slice (some ⟨w.heap.size+1+1,0,none⟩) n n)
   have z0:=XP.c0;have z1:=XP.c1;have z2:=XP.c2
   have RW:=aa (h5.three (g:=w.heap.size+1) (by omega) (.int .i64 r) (.int .i64 d) (.slice (some ⟨w.heap.size+1+1,0,none⟩) n n))
   have BP:=aa (ai h6 (b:=w.heap.size+1) (by omega) (.int .i64 r) (.int .i64 d) (.slice (some ⟨w.heap.size+1+1,0,none⟩) n n))
   clear XP I N h5 h6 l
   go_wp2_with fail
   exact bodyPost_ret (v:=.agg #[.int .i64 r,.int .i64 d,.slice (some ⟨w.heap.size+1+1,0,none⟩) n n]) (by simp[results,Tryz.results237,go_sem,z0,z1,z2]) rfl ⟨_,rfl,by omega,uH RW,uH BP⟩
theorem Gy(r c:Int)(ao:Option Addr)(n cap:Nat)(i k:Int)(D:Option Addr)(L F m:Nat)(w:World)
  (y:∀f,Calls Tryz.prog 110 #[.agg #[.int .i64 r,.int .i64 c,.slice ao n cap]] f fun e t=>e=.returned (.int .i64 1)∧Below f.heap.size f t):
  Calls Tryz.prog 213 #[.agg #[.int .i64 r,.int .i64 c,.slice ao n cap],.int .i64 i,.int .i64 k,.slice D L F,.int .u64 m] w fun e f=>∃v,e=.returned (.tuple #[v,.int .i64 1])∧aS w.heap.size f 0 0 [] v∧Below w.heap.size w f:=by
 have K:=aa (y ((w.alloc (.cells #[.int .i64 r,.int .i64 c,.slice ao n cap] 24)).alloc (.cells #[.int .i64 0,.int .i64 0,.slice none 0 0] 24)))
 simp only[ad]at K
 have z:=aa (dE w (.int .i64 r) (.int .i64 c) (.slice ao n cap) (.int .i64 0) (.int .i64 0) (.slice none 0 0))
 clear y
 go_enter Tryz.func213,Tryz.ntmps213
 go_wp2_with fail
 refine Calls.mono (uH K) ?_
 rintro e M ⟨rfl,h⟩
 obtain⟨A,I,d⟩:=uH z M h
 clear K z h I
 have N:=d.free 0;have O:=d.free 1;have Q:=d.free 2
 have U:=d.c0;have V:=d.c1;have X:=d.c2
 have l:=d.put (.int .i64 0) (.int .i64 0) (.slice none 0 0)
 have G:=l.c0;have z1:=l.c1;have z2:=l.c2
 have H:=aa (ai A (b:=w.heap.size+1) (by omega) (.int .i64 0) (.int .i64 0) (.slice none 0 0))
 clear l d A
 go_wp2
 refine bodyPost_ret (v:=.tuple #[.agg #[.int .i64 0,.int .i64 0,.slice none 0 0],_]) (by simp[results,Tryz.results213,go_sem,G,z1,z2]) rfl ⟨_,rfl,aS.zero _ _,uH H⟩
theorem zt(r c n cap i k L H m:Nat)(ao I:Option Addr)(S:List Nat)(w:World)(F:r≤6)(hi:i+L≤r)(hk:k≤c)
  (M:∀d,Calls Tryz.prog 110 #[.agg #[.int .i64 r,.int .i64 c,.slice ao n cap]] d fun e h=>e=.returned (.int .i64 0)∧Below d.heap.size d h)
  (N:∀d,Below w.heap.size w d→Calls Tryz.prog 237 #[.agg #[.int .i64 r,.int .i64 c,.slice ao n cap],.int .i64 i,.int .i64 k,.slice I L H,.int .u64 m] d fun e h=>∃g,e=.returned (.agg #[.int .i64 r,.int .i64 c,.slice (some ⟨g,0,none⟩) n n])∧d.heap.size≤g∧aY h g S∧Below d.heap.size d h):
  Calls Tryz.prog 213 #[.agg #[.int .i64 r,.int .i64 c,.slice ao n cap],.int .i64 i,.int .i64 k,.slice I L H,.int .u64 m] w fun e d=>∃g,e=.returned (.tuple #[.agg #[.int .i64 r,.int .i64 c,.slice (some ⟨g,0,none⟩) n n],.int .i64 0])∧w.heap.size+2≤g∧aY d g S∧Below w.heap.size w d:=by
 have K:=aa (M ((w.alloc (.cells #[.int .i64 r,.int .i64 c,.slice ao n cap] 24)).alloc (.cells #[.int .i64 0,.int .i64 0,.slice none 0 0] 24)))
 simp only[ad]at K
 have O:=aa (dE w (.int .i64 r) (.int .i64 c) (.slice ao n cap) (.int .i64 0) (.int .i64 0) (.slice none 0 0))
 have U:=aa N
 have V:=aa (show w.heap.size+2≤((w.alloc (.cells #[.int .i64 r,.int .i64 c,.slice ao n cap] 24)).alloc (.cells #[.int .i64 0,.int .i64 0,.slice none 0 0] 24)).heap.size by rw[ad,ad];omega)
 have hw:IntKind.i64.wrap ((r:Int)-(L:Int))=(r:Int)-(L:Int):=aP _ (by omega)
 have h1:(i:Int)≤(r:Int)-(L:Int):=by omega
 have h2:(k:Int)≤(c:Int):=by omega
 clear M N
 go_enter Tryz.func213,Tryz.ntmps213
 go_wp2_with fail
 refine Calls.mono (uH K) ?_
 rintro e w1 ⟨rfl,l⟩
 obtain⟨y,D,f⟩:=uH O w1 l
 have t:=aa (Nat.le_trans (uH V) l.size)
 clear K O l V
 have a0:=D.c0;have a1:=D.c1;have a2:=D.c2
 have z:=aa y;have X:=aa f
 clear y D f
 go_wp2_with fail
 clear a0 a1 a2
 refine(uH U _ (uH z)).mono ?_
 rintro e w2 ⟨g,rfl,Z,F,G⟩
 have y:=(uH z).trans (G.mono (uH z).size)
 have f:=(uH X).all G
 have Y:=aa (Nat.le_trans (uH t) Z)
 have f0:=f.free 0;have f1:=f.free 1;have f2:=f.free 2
 have s0:=f.c0;have s1:=f.c1;have s2:=f.c2
 have A:=f.put (.int .i64 r) (.int .i64 c) (.slice (some ⟨g,0,none⟩) n n)
 have z0:=A.c0;have z1:=A.c1;have z2:=A.c2
 have Q:=aa (F.three (g:=w.heap.size+1) (by have:=uH Y;omega) (.int .i64 r) (.int .i64 c) (.slice (some ⟨g,0,none⟩) n n))
 have BP:=aa (ai y (b:=w.heap.size+1) (by omega) (.int .i64 r) (.int .i64 c) (.slice (some ⟨g,0,none⟩) n n))
 clear y f G Z F A z X U t
 go_wp2
 exact bodyPost_ret (v:=.tuple #[.agg #[.int .i64 r,.int .i64 c,.slice (some ⟨g,0,none⟩) n n],.int .i64 0]) (by simp[results,Tryz.results213,go_sem,z0,z1,z2]) rfl ⟨_,rfl,uH Y,uH Q,uH BP⟩
theorem IH{r c:Nat}{S:List Nat}(f:∀p q,bB c S p q<18446744073709551616)(i k:Nat)(h:List Nat)(d:Nat):∀x∈ot r c S i k h d,x<18446744073709551616:=by
 intro x l
 unfold ot bW at l
 obtain⟨p,_,rfl⟩:=List.mem_map.1 l
 show(if _ then _ else _)<_
 split
 ·rename_i g
  exact vI c S i _ h d (by omega) f
 ·exact f _ _
theorem Dw(c:Nat)(S:List Nat)(i d n:Nat):qX c S i d n 1=eG c S i n d:=by
 unfold qX bW eG
 rw[Nat.mul_one]
 refine List.map_congr_left (fun p _=>?_)
 show bB c S (i+p/1) (d+p%1)=_
 rw[Nat.div_one,Nat.mod_one,Nat.add_zero]
theorem oF(r c cap i k F f:Nat)(ao G:Option Addr)(S l:List Nat)(w:World)(h:Mx w ao cap r c S)(hV:ac w G F (ar l))(O:i+l.length≤r)(hk:k≤c)(ht:f<18446744073709551616)(hT:b7 w):
  Calls Tryz.prog 213 #[.agg #[.int .i64 r,.int .i64 c,.slice ao S.length cap],.int .i64 i,.int .i64 k,.slice G l.length F,.int .u64 f] w fun e D=>∃g,e=.returned (.tuple #[.agg #[.int .i64 r,.int .i64 c,.slice (some ⟨g,0,none⟩) S.length S.length],.int .i64 0])∧w.heap.size+2≤g∧aY D g (ot r c S i k l f)∧Below w.heap.size w D:=by
 have ae:=h.small
 have r6:=h.2.2.1
 have c6:=h.2.2.2
 refine zt r c S.length cap i k l.length F f ao G (ot r c S i k l f) w r6 O hk (fun D=>?_) (fun D X=>?_)
 ·have:=kh (r:Int) (c:Int) ao S.length cap D (by omega)
  rw[if_pos (kT h)]at this
  exact this
 have hM:=h.below X
 have L:=hV.below X
 have M:=hT.all X
 rw[←xm r c S i k l f c (Nat.le_refl _)]
 refine tP r c S.length cap i k l.length F f ao G (fun d j=>tG r c S i k l f d j) (fun d=>ar (eG c S i l.length d)) (fun d j=>(i+j)*c+d) (fun d j=>(Dd c S i d l f).getD j 0) (fun d=>mV f (u9 0 l (eG c S i l.length d))) D ae c6 r6 O hk
  (by show ac D ao cap (ar (tG r c S i k l f k 0));rw[Gw r c S i k l f h.2.1];exact hM.1) (fun d j=>by rw[re,h.2.1]) (fun d=>tH r c S i k l f d)
  (fun d j Q y A=>⟨by rw[h.2.1];exact cV (by omega) y,rfl,xn r c S O y Q A⟩) (fun t d m Q y=>?_) (fun t d U H m Q y Y=>?_) (fun t d j U H bx bt bv m Q y A Y V Z hv=>?_)
 ·refine(jq r c cap i d l.length 1 ao S t (hM.below m) O (by omega)).mono ?_
  rintro e K ⟨v,rfl,⟨U,H,rfl,hn,V⟩,z⟩
  rw[Dw]at hn V⊢
  rw[bV]
  exact⟨U,H,rfl,hn,V,z⟩
 ·have I:=v7 U G H F f (eG c S i l.length d) l t Y (L.below m) (bV _ _ _ _ _) (by omega) ht (M.all m)
  rw[bV]at I
  exact I
 ·have aj:=L.below m
  have N:=M.all m
  obtain⟨b1,o1,e1,_,z1⟩:=Y.ne (by rw[al,bV];omega)
  obtain⟨b2,o2,e2,_,z2⟩:=aj.ne (by rw[al];omega)
  subst e1
  subst e2
  have q1:=z1 j (by rw[al,bV];exact A)
  have q2:=z2 j (by rw[al];exact A)
  rw[di,q9 c S i l.length d A]at q1
  rw[di]at q2
  have lv:l.getD j 0<18446744073709551616:=by
   have:=hV.lt j
   rwa[di]at this
  show Calls _ _ _ t fun e K=>e=.returned (.int .u64 ((Dd c S i d l f).getD j 0:Nat))∧_
  rw[rf c S i d l f A]
  exact vZ _ _ _ (mV (mV f (u9 0 l (eG c S i l.length d))) (l.getD j 0)) _ j l.length l.length H F bx bv bt b1 o1 b2 o2 t A A V hv Z q1 q2
   (fun K z=>kQ _ _ K (gp _ _) lv (N.all z)) (fun K z=>ju _ _ K (h.el_lt _ _) (gp _ _) (N.all z))
theorem zu(r c cap i k m d:Nat)(ao t:Option Addr)(S f:List Nat)(w:World)(h:Mx w ao cap r c S)(A:ac w t m (ar f))(D:i+f.length≤r)(F:k≤c)(G:d<18446744073709551616)(H:b7 w):
  Calls Tryz.prog 213 #[.agg #[.int .i64 r,.int .i64 c,.slice ao S.length cap],.int .i64 i,.int .i64 k,.slice t f.length m,.int .u64 d] w fun e y=>∃v,e=.returned (.tuple #[v,.int .i64 0])∧aS w.heap.size y r c (ot r c S i k f d) v∧Below w.heap.size w y:=by
 refine(oF r c cap i k m d ao t S f w h A D F G H).mono ?_
 rintro e y ⟨g,rfl,L,I,K⟩
 have l:S.length=(ot r c S i k f d).length:=by rw[gP,h.2.1]
 have z:=I.bits (IH (fun p q=>h.el_lt p q) i k f d)
 refine⟨_,rfl,⟨_,S.length,by rw[l],.inr ⟨g,0,rfl,by omega⟩,?_⟩,K⟩
 rw[l]
 exact z
end Go.Proofs.YtlnphkioddknfaaGreatDoor
namespace Go.Proofs.YtlnphkioddknfaaGreatDoor
open Go.RowKit
theorem F9(a b:Nat)(h:aC (aV a b)=true):aC a=true:=by
 by_cases d:fK a=4
 ·unfold aV at h
  rw[if_pos (.inl d)]at h
  exact absurd h (by decide+kernel)
 by_cases f:fK a=3
 ·unfold aV at h
  by_cases l:fK b=4
  ·rw[if_pos (.inr l)]at h
   exact absurd h (by decide+kernel)
  ·rw[if_neg (fun e=>e.elim d l),if_pos f]at h
   split at h
   ·exact absurd h (by decide+kernel)
   ·exact h
 exact bh a f d
theorem kZ(d:List Nat):bG d=true↔∀k,k<d.length→aC (d.getD k 0)=true:=by
 unfold bG
 rw[mK]
 exact⟨fun h k f=>by have:=h k f;rwa[di]at this,fun h k f=>by rw[di];exact h k f⟩
theorem Ga{r c:Nat}{S:List Nat}(y:S.length=r*c)(i k:Nat)(l:List Nat)(d:Nat)(h:bG (ot r c S i k l d)=true):bG S=true:=by
 rw[kZ]at h⊢
 intro x m
 rw[gP]at h
 rw[y]at m
 obtain⟨z,A,t⟩:=iy m
 have f:aC (bB c (ot r c S i k l d) (x/c) (x%c))=true:=by
  have:=h x m
  unfold bB
  rwa[t]
 rw[Jq r c S i k l d z A]at f
 have e:S.getD x 0=bB c S (x/c) (x%c):=by unfold bB;rw[t]
 rw[e]
 split at f
 ·rename_i g
  rw[rf c S i (x%c) l d (j:=x/c-i) (by omega)]at f
  have:=F9 _ _ f
  rwa[show i+(x/c-i)=x/c by omega]at this
 ·exact f
theorem Dx(r c:Nat)(S:List Nat)(K:Nat):∀t d,bG (zd r c S K (t+d))=true→bG (zd r c S K t)=true:=by
 intro t d
 induction d with
 |zero=>exact fun h=>h
 |succ d ih=>exact fun h=>ih (Ga (cS r c S K (t+d)) _ _ _ _ h)
theorem Gb(r c:Nat)(S:List Nat)(h:S.length=r*c):qX c S 0 0 r c=S:=by
 conv=>rhs;rw[←qW r c S h]
 unfold qX
 refine aX (fun p q _ _=>?_)
 rw[Nat.zero_add,Nat.zero_add]
 rfl
theorem rt(r c cap:Nat)(ao:Option Addr)(S:List Nat)(w:World)(h:Mx w ao cap r c S)(Y:b7 w):
  Calls Tryz.prog 174 #[.agg #[.int .i64 r,.int .i64 c,.slice ao S.length cap]] w fun e l=>vN w l (Iw r c S (iW r c)) r c S.length (iW r c) (iC r c S) (fun j=>kp (dG r c S j)) (fun j=>mJ (dG r c S j)) e∧Below w.heap.size w l:=by
 have G:=h.2.1
 have K:=h.2.2.1
 have N:=h.2.2.2
 have lR:=fun j=>(dP r c S G j).trans G.symm
 have t:∀j,(dG r c S j).length=r-j:=rh r c S
 have lV:∀j,(kp (dG r c S j)).length=r-j:=fun j=>by rw[q8,t]
 refine F6 r c S.length cap (iW r c) (min (c:Int) ((r:Int)-1)) ao (rG r c S) (fun j=>kp (dG r c S j)) (fun j=>mJ (dG r c S j)) (fun j=>bG (dG r c S j)&&Da (dG r c S j)) (Iw r c S (iW r c)) w K N rfl (fun j=>by rw[gZ];omega) lR lV (fun j _=>rn h.1.nat (j+1)) ?_ ?_ ?_
 ·rw[xr]
  exact⟨fun q j D=>by rw[(q j D).1,(q j D).2];rfl,fun q j D=>by have:=q j D;rwa[Bool.and_eq_true]at this⟩
 ·intro l y
  refine(jq r c cap 0 0 r c ao S l (h.below y) (by omega) (by omega)).mono ?_
  rintro e z ⟨v,rfl,⟨L,M,rfl,Q,m⟩,f⟩
  rw[Gb r c S G]at Q m⊢
  exact⟨L,M,rfl,Q,m,f⟩
 ·intro w1 j L M D U O
  have ae:=(gZ r c j).1 D
  have A:=Y.all U
  refine F4 r c S.length M j (r-j) (mJ (dG r c S j)) (DP (dG r c S j)) L (rG r c S j) (ot r c (rG r c S j) j j (kp (dG r c S j)) (mJ (dG r c S j))) (rG r c S (j+1)) (dG r c S j) (kp (dG r c S j)) _ w1 K (by omega) rfl O (fun l y=>?_) (fun l F d H y m=>?_) (fun l F d H y m=>?_) (fun l Z vc y O hv=>?_) (fun l g I=>?_)
  ·have:=jq r c M j j (r-j) 1 L (rG r c S j) l ⟨y,dP r c S G j,K,N⟩ (by omega) (by omega)
   rw[lR j]at this
   refine this.mono ?_
   rintro e z ⟨v,rfl,⟨F,d,rfl,Q,m⟩,f⟩
   rw[Dw]at m⊢
   rw[bV]
   exact⟨F,d,rfl,m,f⟩
  ·rw[Bool.and_eq_true]at H
   have:=Dv F d (ar (dG r c S j)) l m (by rw[al,t];omega) (by rw[al,t];omega) (by rw[al];exact H.1) (by rw[cR];exact H.2) (A.all y)
   rw[cR,al,t]at this
   exact this
  ·cases hf:bG (dG r c S j)
   ·have:=zq F d (ar (dG r c S j)) l m (by rw[al,t];omega) (by rw[al,t];omega) (by rw[al];exact hf)
    rw[al,t]at this
    refine this.mono ?_
    rintro e z ⟨V,X,rfl,f⟩
    exact⟨V,X,4,rfl,.inr rfl,f⟩
   ·have hk:Da (dG r c S j)=false:=by
     have:=H
     rw[hf,Bool.true_and]at this
     exact this
    have:=vY F d (ar (dG r c S j)) l m (by rw[al,t];omega) (by rw[al,t];omega) (by rw[al];exact hf) (by rw[cR];exact hk) (A.all y)
    rw[al,t]at this
    refine this.mono ?_
    rintro e z ⟨V,X,rfl,f⟩
    exact⟨V,X,2,rfl,.inl rfl,f⟩
  ·have:=oF r c M j j vc (mJ (dG r c S j)) L Z (rG r c S j) (kp (dG r c S j)) l ⟨O,dP r c S G j,K,N⟩ hv (by rw[lV];omega) (by omega) (qZ _) (A.all y)
   rw[lR j,lV]at this
   refine this.mono ?_
   rintro e z ⟨g,rfl,hg,hr,f⟩
   exact⟨g,rfl,by omega,hr,f⟩
  ·have:=vK r c j (DP (dG r c S j)) g _ l K N (by omega) (by omega) (gP r c (rG r c S j) j j (kp (dG r c S j)) (mJ (dG r c S j))) I
   rw[gP,←G]at this
   exact this
theorem tQ(r c D:Nat)(lo:Option Addr)(S:List Nat)(R:List Mr)(w:World)(z:r≤6)(hc:c≤6)(L:bZ 0 w (.slice lo (iW r c) D) R)(F:R.length=iW r c)(G:∀k,k<iW r c→(bQ R k).V=kp (dG r c S k)∧(bQ R k).tau=mJ (dG r c S k))(M:b7 w):
  Calls Tryz.prog 175 #[.int .i64 r,.slice lo (iW r c) D] w fun e d=>∃Q f h,(Q=g6 r c S∨(fu (ar Q) (r*r)=false∧bG (g6 r c S)=false))∧Q.length=r*r∧e=.returned (.agg #[.int .i64 r,.int .i64 r,.slice f (r*r) h])∧bH w.heap.size f (ar Q)∧ac d f h (ar Q)∧Below w.heap.size w d:=by
 have N:∀j,(dG r c S j).length=r-j:=rh r c S
 have lV:∀j,(kp (dG r c S j)).length=r-j:=fun j=>by rw[q8,N]
 have O:iW r c≤6:=by unfold iW;omega
 refine(vO r (r*r) (iW r c) D lo (fun j=>kp (dG r c S j)) (zd r c S (iW r c)) (fun j=>mJ (dG r c S j)) R w (Nat.mul_le_mul z z) O L F G (cS r c S _) lV ?_ ?_ (fun d x m=>d7 x d m)).mono ?_
 ·intro d
  refine(FO r d z).mono ?_
  rintro e I ⟨v,rfl,⟨f,h,rfl,y,A⟩,l⟩
  exact⟨f,h,by rw[show(Ct r).length=r*r from bg r r _],y,A,l⟩
 ·intro d t j X Y Z vc ht hj A hp hv
  have U:=(gZ r c j).1 (by omega)
  have:=zu r r Y j 0 vc (mJ (dG r c S j)) X Z (zd r c S (iW r c) t) (kp (dG r c S j)) d ⟨hp,cS r c S _ t,z,z⟩ hv (by rw[lV];omega) (by omega) (qZ _) (M.all A)
  rw[cS,lV]at this
  refine this.mono ?_
  rintro e I ⟨v,rfl,⟨f,h,rfl,y,m⟩,l⟩
  rw[gP]
  have e:ot r r (zd r c S (iW r c) t) j 0 (kp (dG r c S j)) (mJ (dG r c S j))=zd r c S (iW r c) (t+1):=by
   show _=ot r r (zd r c S (iW r c) t) (iW r c-1-t) 0 (kp (dG r c S (iW r c-1-t))) (mJ (dG r c S (iW r c-1-t)))
   rw[←hj]
  rw[e]at y m
  exact⟨f,h,rfl,y,m,l⟩
 ·rintro e d ⟨t,f,h,ht,K,rfl,y,m,A⟩
  refine⟨_,f,h,?_,cS r c S _ t,rfl,y,m,A⟩
  rcases K with e|e
  ·left;rw[e];rfl
  ·right
   refine⟨e,?_⟩
   cases hf:bG (g6 r c S)
   ·rfl
   ·have H:=Dx r c S (iW r c) t (iW r c-t) (by rw[show t+(iW r c-t)=iW r c by omega];exact hf)
    unfold bG at H
    rw[cS,e]at H
    cases H
theorem tR(r c cap:Nat)(ao:Option Addr)(S:List Nat)(w:World)(h:Mx w ao cap r c S)(F:bG S=true)(z:b7 w):
  Calls Tryz.prog 124 #[.agg #[.int .i64 r,.int .i64 c,.slice ao S.length cap]] w fun e d=>((iX r c S=true∧rk w d r c S.length (r*r) (iW r c) (g6 r c S) (iC r c S) e)∨(iX r c S=false∧∃v u,e=.returned (.tuple #[v,u,.int .i64 2])∧aS w.heap.size d 0 0 [] v∧aS w.heap.size d 0 0 [] u))∧Below w.heap.size w d:=by
 have A:=h.2.1
 have l:=h.2.2.1
 have L:=h.2.2.2
 have M:=h.small
 have D:r*r≤36:=Nat.mul_le_mul l l
 have m:(iC r c S).length=S.length:=(dP r c S A _).trans A.symm
 have t:gG (r:Int) (c:Int) (ar S)=0:=by
  unfold gG
  rw[al,kT h]
  have:fu (ar S) S.length=true:=F
  rw[this]
  rfl
 refine zh r c S.length (r*r) (iW r c) cap ao (iC r c S) (g6 r c S) (fun j=>kp (dG r c S j)) (fun j=>mJ (dG r c S j)) (Iw r c S (iW r c)) (bG (g6 r c S)) (bG (iC r c S)) w m (cS _ _ _ _ _) (by unfold bG;rw[show(g6 r c S).length=r*r from cS _ _ _ _ _]) ?_ (fun d f=>rt r c cap ao S d (h.below f) (z.all f)) (fun d lo G R f H I K=>tQ r c G lo S R d l L H I K (z.all f)) ?_ ?_
 ·intro d f
  have:=iU r c ao cap (ar S) d (h.1.below f) (by rw[al];omega)
  rw[al,t]at this
  exact this
 ·intro d Q N O f y
  have:=cK N O (ar Q) d f (by rw[al];omega)
  rw[al,y]at this
  exact this
 ·intro d U V f
  have:=cK U V (ar (iC r c S)) d f (by rw[al];omega)
  unfold bG
  rw[al,m]at this
  rw[m]
  exact this
theorem mj(r c cap:Nat)(ao:Option Addr)(S:List Nat)(w:World)(h:Mx w ao cap r c S)(m:bG S=true)(t:b7 w):
  Calls Tryz.prog 124 #[.agg #[.int .i64 r,.int .i64 c,.slice ao S.length cap]] w fun e d=>((iX r c S=true∧∃v u,e=.returned (.tuple #[v,u,.int .i64 0])∧aS w.heap.size d r r (g6 r c S) v∧aS w.heap.size d r c (iC r c S) u)∨(iX r c S=false∧∃v u,e=.returned (.tuple #[v,u,.int .i64 2])∧aS w.heap.size d 0 0 [] v∧aS w.heap.size d 0 0 [] u))∧Below w.heap.size w d:=by
 refine(tR r c cap ao S w h m t).mono ?_
 rintro e d ⟨⟨y,f⟩|f,l⟩
 ·exact⟨.inl ⟨y,f.two (cS _ _ _ _ _) ((dP r c S h.2.1 _).trans h.2.1.symm)⟩,l⟩
 ·exact⟨.inr f,l⟩
theorem tT(r c cap:Nat)(ao:Option Addr)(S:List Nat)(w:World)(h:Mx w ao cap r c S)(l:bG S=true)(m:iX r c S=true)(t:b7 w):
  Calls Tryz.prog 124 #[.agg #[.int .i64 r,.int .i64 c,.slice ao S.length cap]] w fun e f=>∃v u,e=.returned (.tuple #[v,u,.int .i64 0])∧aS w.heap.size f r r (g6 r c S) v∧aS w.heap.size f r c (iC r c S) u∧Below w.heap.size w f:=by
 refine(mj r c cap ao S w h l t).mono ?_
 rintro e f ⟨⟨_,v,u,rfl,y,z⟩|⟨d,_⟩,A⟩
 ·exact⟨v,u,rfl,y,z,A⟩
 ·rw[m]at d;cases d
theorem v8(r c cap:Nat)(ao:Option Addr)(S:List Nat)(w:World)(h:Mx w ao cap r c S)(l:bG S=true)(m:iX r c S=false)(t:b7 w):
  Calls Tryz.prog 124 #[.agg #[.int .i64 r,.int .i64 c,.slice ao S.length cap]] w fun e f=>∃v u,e=.returned (.tuple #[v,u,.int .i64 2])∧aS w.heap.size f 0 0 [] v∧aS w.heap.size f 0 0 [] u∧Below w.heap.size w f:=by
 refine(mj r c cap ao S w h l t).mono ?_
 rintro e f ⟨⟨d,_⟩|⟨_,v,u,rfl,y,z⟩,A⟩
 ·rw[m]at d;cases d
 ·exact⟨v,u,rfl,y,z,A⟩
theorem zv(r c cap:Nat)(ao:Option Addr)(S:List Nat)(w:World)(h:Mx w ao cap r c S)(y:bG S=true)(z:iX r c S=true)(A:b7 w):
  Calls Tryz.prog 71 #[.agg #[.int .i64 r,.int .i64 c,.slice ao S.length cap]] w fun e d=>∃v u,e=.returned (.tuple #[v,u,.int .i64 0])∧aS w.heap.size d r (min r c) (qX r (g6 r c S) 0 0 r (min r c)) v∧aS w.heap.size d (min r c) c (qX c (iC r c S) 0 0 (min r c) c) u∧Below w.heap.size w d:=by
 have f:=h.2.2.1
 have L:=h.2.2.2
 have l:(g6 r c S).length=r*r:=cS _ _ _ _ _
 have m:(iC r c S).length=r*c:=dP r c S h.2.1 _
 refine F3 r c S.length cap (min r c) (r*r) (r*c) (r*min r c) (min r c*c) ao (g6 r c S) (iC r c S) _ _ w (by omega) l m (bg _ _ _) (bg _ _ _) (fun d t=>tT r c cap ao S d (h.below t) y z (A.all t)) (fun d D F G=>?_) (fun d H I K=>?_)
 ·have:=jq r r F 0 0 r (min r c) D (g6 r c S) d ⟨G,l,f,f⟩ (by omega) (by omega)
  rw[l]at this
  exact this
 ·have:=jq r c I 0 0 (min r c) c H (iC r c S) d ⟨K,m,f,L⟩ (by omega) (by omega)
  rw[m]at this
  exact this
theorem Dy(r c cap:Nat)(ao:Option Addr)(S:List Nat)(w:World)(h:Mx w ao cap r c S)(l:bG S=true)(m:iX r c S=false)(t:b7 w):
  Calls Tryz.prog 71 #[.agg #[.int .i64 r,.int .i64 c,.slice ao S.length cap]] w fun e d=>∃v u,e=.returned (.tuple #[v,u,.int .i64 2])∧aS w.heap.size d 0 0 [] v∧aS w.heap.size d 0 0 [] u∧Below w.heap.size w d:=
 Dm r c ao S.length cap 2 w (.inr (.inr rfl)) (fun d f=>v8 r c cap ao S d (h.below f) l m (t.all f))
theorem tU(r c s cap d:Nat)(ao l:Option Addr)(S T:List Nat)(w:World)(h:Mx w ao cap r c S)(y:Mx w l d r s T)(z:b7 w):
  Calls Tryz.prog 72 #[.agg #[.int .i64 r,.int .i64 c,.slice ao S.length cap],.agg #[.int .i64 r,.int .i64 s,.slice l T.length d]] w fun e f=>∃v,e=.returned (.tuple #[v,.int .i64 0])∧aS w.heap.size f c s (FH c r s (mH r c S) T) v∧Below w.heap.size w f:=by
 have t:(mH r c S).length=c*r:=bg _ _ _
 refine vP r c ao S.length cap r s l T.length d (c*r) _ c r c s (mH r c S) (FH c r s (mH r c S) T) 0 w t rfl (fun f m=>CE r c cap ao S f (h.below m)) (fun f A D m F=>?_)
 have:=FQ c r D s d A l (mH r c S) T f ⟨F,t,h.2.2.2,h.2.2.1⟩ (y.below m) (z.all m)
 rw[t]at this
 exact this
end Go.Proofs.YtlnphkioddknfaaGreatDoor
