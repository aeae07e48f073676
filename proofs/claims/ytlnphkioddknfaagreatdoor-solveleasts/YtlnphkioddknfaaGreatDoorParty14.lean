/- Part 14 of the texts. -/
import Derived.Test.YtlnphkioddknfaaGreatDoorParty13
set_option maxHeartbeats 4000000
namespace Go.Proofs.YtlnphkioddknfaaGreatDoor
open Go.RowKit
attribute [local go_sem ↓] Go.wp_at_zero Go.wp_at_succ
def lj(n m:Nat)(x y:Int):Int:=if n=0 then y else if m=0 then x else min x y
theorem GO{h l:Bool}{A B:List Nat}{x y:Int}(m:av h A=true)(t:av l B=true):lj A.length B.length x y=bO (af h A) x (af l B) y:=by
 unfold lj bO
 by_cases d:A.length=0
 ·rw[if_pos d,if_pos ((aK m).2 d)]
 ·rw[if_neg d,if_neg (fun e=>d ((aK m).1 e))]
  by_cases f:B.length=0
  ·rw[if_pos f,if_pos ((aK t).2 f)]
  ·rw[if_neg f,if_neg (fun e=>f ((aK t).1 e))]
theorem Ew(F G:Bool)(ao H:Option Addr)(I K n m:Nat)(x y:Int)(w:World):
  Calls Tryz.prog 85 #[.agg #[.bool F,.slice ao n I,.int .i64 x],.agg #[.bool G,.slice H m K,.int .i64 y]] w fun r L=>r=.returned (.int .i64 (lj n m x y))∧Below w.heap.size w L:=by
 have z:Below w.heap.size w ((w.alloc (.cells #[.bool F,.slice ao n I,.int .i64 x] 47)).alloc (.cells #[.bool G,.slice H m K,.int .i64 y] 47)):=((Below.refl _ _).alloc (Nat.le_refl _) _).alloc (by simp) _
 have A:=aa z
 clear z
 by_cases h:n=0
 ·have d:lj n m x y=y:=by unfold lj;rw[if_pos h]
  rw[d]
  subst h
  clear d
  go_enter Tryz.func85,Tryz.ntmps85
  go_wp2
  go_ret
  exact⟨rfl,uH A⟩
 have M:((n:Int)==0)=false:=by rw[beq_eq_false_iff_ne];omega
 by_cases D:m=0
 ·have d:lj n m x y=x:=by unfold lj;rw[if_neg h,if_pos D]
  rw[d]
  subst D
  clear d h
  go_enter Tryz.func85,Tryz.ntmps85
  go_wp2
  go_ret
  exact⟨rfl,uH A⟩
 have N:((m:Int)==0)=false:=by rw[beq_eq_false_iff_ne];omega
 have t:=aa (show lj n m x y=min x y by unfold lj;rw[if_neg h,if_neg D])
 generalize lj n m x y=l at*
 clear h D
 rcases(show x<y∨x=y∨y<x by omega)with f|f|f
 ·have d:l=x:=by rw[uH t];omega
  subst d
  clear t
  go_enter Tryz.func85,Tryz.ntmps85
  go_wp2
  go_ret
  exact⟨rfl,uH A⟩
 ·have d:l=x:=by rw[uH t];omega
  subst f
  subst d
  clear t
  go_enter Tryz.func85,Tryz.ntmps85
  go_wp2
  go_ret
  exact⟨rfl,uH A⟩
 ·have d:l=y:=by rw[uH t];omega
  subst d
  clear t
  go_enter Tryz.func85,Tryz.ntmps85
  go_wp2
  go_ret
  exact⟨rfl,uH A⟩
theorem sf(n m:Nat)(x y:Int)(d:-16384≤x∧x≤16384)(f:-16384≤y∧y≤16384):-16384≤lj n m x y∧lj n m x y≤16384:=by
 unfold lj
 split
 ·omega
 ·split<;>omega
theorem pC(d:Bool)(ao:Option Addr)(m:Nat)(A:List Nat)(x l:Int)(w:World)(hA:ag w ao m A)(F:av d A=true)(h:A.length≠0→l≤x∧x-l≤16384)(hx:-16384≤x∧x≤16384)(hl:-16384≤l∧l≤16384):
  Calls Tryz.prog 87 #[.agg #[.bool d,.slice ao A.length m,.int .i64 x],.int .i64 l] w fun r t=>∃v,r=.returned v∧aw 0 t v (up (af d A) x l)∧Below w.heap.size w t:=by
 have la:=(ay F).1
 have K:=aa (show A.length=0→up (af d A) x l=0∧d=false from fun f=>by
  refine⟨by rw[(aK F).2 f,fU],?_⟩
  cases d
  ·rfl
  ·exact absurd (List.length_eq_zero_iff.1 f) ((ay F).2.2 rfl))
 have L:=aa (fun t I (f:A.length≠0)=>show Calls Tryz.prog 141 #[.agg #[.bool d,.slice ao A.length m],.int .i64 (x-l)] t fun e G=>∃v,e=.returned v∧aw 0 G v (up (af d A) x l)∧Below t.heap.size t G by
  have:=qy d ao m A (x-l) t I F (by have:=h f;omega)
  rwa[rY d A (x-l) (by have:=h f;omega)]at this)
 clear h F
 generalize up (af d A) x l=z at*
 obtain⟨aj,ak⟩:=hx
 obtain⟨am,ax⟩:=hl
 have H:Below w.heap.size w ((w.alloc (.cells #[.bool d,.slice ao A.length m,.int .i64 x] 47)).alloc (.cells #[.bool false,.slice none 0 0] 45)):=((Below.refl _ _).alloc (Nat.le_refl _) _).alloc (by simp) _
 have Q:az ((w.alloc (.cells #[.bool d,.slice ao A.length m,.int .i64 x] 47)).alloc (.cells #[.bool false,.slice none 0 0] 45)) w.heap.size (.bool d) (.slice ao A.length m) (.int .i64 x):=(az.new _ _ _ _).old _
 have y:aA ((w.alloc (.cells #[.bool d,.slice ao A.length m,.int .i64 x] 47)).alloc (.cells #[.bool false,.slice none 0 0] 45)) (w.heap.size+1) (.bool false) (.slice none 0 0):=by
  have:=aA.new (w.alloc (.cells #[.bool d,.slice ao A.length m,.int .i64 x] 47)) (.bool false) (.slice none 0 0)
  simpa using this
 have M:=aa H;have X0:=aa Q;have X2:=aa y
 clear H Q y
 by_cases f:A.length=0
 ·obtain⟨rfl,rfl⟩:=uH K f
  have N:A= []:=List.length_eq_zero_iff.1 f
  subst N
  clear K L f
  go_enter Tryz.func87,Tryz.ntmps87
  go_wp2
  refine bodyPost_ret (v:=.agg #[.bool false,.slice ao 0 m]) (by simp[results,Tryz.results87,go_sem]) rfl ⟨_,rfl,aw.zero _ _ _ _,?_⟩
  exact((Below.refl w.heap.size w).alloc (Nat.le_refl _) _).alloc (by simp) _
 have ae:((A.length:Int)==0)=false:=by rw[beq_eq_false_iff_ne];omega
 have O:=aa (fun t I=>uH L t I f)
 clear K L f
 go_enter Tryz.func87,Tryz.ntmps87
 go_wp2_with fail
 refine(uH O _ (hA.below (uH M))).mono ?_
 rintro r w2 ⟨v,rfl,⟨X,Y,Z,L3,rfl,i3⟩,D⟩
 have y:=(uH X2).all D
 have U:=(uH M).trans (D.mono (uH M).size)
 have y0:=y.c0;have y1:=y.c1;have f0:=y.free 0;have f1:=y.free 1
 have X3:=aa y;have B2:=aa U;have V:=aa i3
 clear y U D i3
 go_wp2
 refine bodyPost_ret (v:=.agg #[.bool X,.slice Y L3.length Z]) (by simp[results,Tryz.results87,go_sem,y0,y1]) rfl ⟨_,rfl,⟨X,Y,Z,L3,rfl,(uH V).1.box (uH X3) _ _,(uH V).2⟩,bS (uH B2) (by omega) _ _⟩
theorem Az(f:Bool)(ao:Option Addr)(l:Nat)(A:List Nat)(x:Int)(w:World)(hA:ag w ao l A)(la:A.length≤512):
  Calls Tryz.prog 131 #[.agg #[.bool f,.slice ao A.length l,.int .i64 x]] w fun r d=>∃v,r=.returned v∧aG d v (-af f A) x∧Below w.heap.size w d:=by
 have CN:=aa (fun d h=>mX f ao l A d h (by omega))
 generalize-af f A=z at*
 have G:Below w.heap.size w ((w.alloc (.cells #[.bool f,.slice ao A.length l,.int .i64 x] 47)).alloc (.cells #[.bool false,.slice none 0 0,.int .i64 0] 47)):=((Below.refl _ _).alloc (Nat.le_refl _) _).alloc (by simp) _
 have t:az ((w.alloc (.cells #[.bool f,.slice ao A.length l,.int .i64 x] 47)).alloc (.cells #[.bool false,.slice none 0 0,.int .i64 0] 47)) w.heap.size (.bool f) (.slice ao A.length l) (.int .i64 x):=(az.new _ _ _ _).old _
 have F:az ((w.alloc (.cells #[.bool f,.slice ao A.length l,.int .i64 x] 47)).alloc (.cells #[.bool false,.slice none 0 0,.int .i64 0] 47)) (w.heap.size+1) (.bool false) (.slice none 0 0) (.int .i64 0):=by
  have:=az.new (w.alloc (.cells #[.bool f,.slice ao A.length l,.int .i64 x] 47)) (.bool false) (.slice none 0 0) (.int .i64 0)
  simpa using this
 have X:=aa G;have Y:=aa t;have O:=aa F
 clear G t F
 go_enter Tryz.func131,Tryz.ntmps131
 go_wp2_with fail
 refine au (fun W=>Below w.heap.size w W∧az W w.heap.size (.bool f) (.slice ao A.length l) (.int .i64 x)∧az W (w.heap.size+1) (.bool false) (.slice none 0 0) (.int .i64 0)) ⟨uH X,uH Y,uH O⟩ ?_
 clear X Y O
 rintro I ⟨b0,t,F⟩
 have s0:w.heap.size+1<I.heap.size:=F.lt
 have Z:∀d,Below (w.heap.size+1) I d→Below (w.heap.size+1) I d∧d.cell? ⟨w.heap.size,0,none⟩=some (.bool f)∧d.cell? ⟨w.heap.size,1,none⟩=some (.slice ao A.length l)∧d.cell? ⟨w.heap.size,2,none⟩=some (.int .i64 x):=fun d h=>
  ⟨h,(t.below h (by omega)).c0,(t.below h (by omega)).c1,(t.below h (by omega)).c2⟩
 have Q:=aa Z;have BB:=aa b0;have O:=aa F
 clear Z b0 t F
 go_region_held3(fun d=>Below (w.heap.size+1) I d∧d.cell? ⟨w.heap.size,0,none⟩=some (.bool f)∧d.cell? ⟨w.heap.size,1,none⟩=some (.slice ao A.length l)∧d.cell? ⟨w.heap.size,2,none⟩=some (.int .i64 x))
  (first|exact uH Q _ (Below.refl _ _).drew|exact uH Q _ (by assumption)|exact uH Q _ (aD H (by omega) _ _ _))
  (first|(go_at_call 132;refine(uH CN _ (hA.below ((uH BB).trans ((Below.refl _ _).drew)))).mono ?_;rintro e V ⟨v,rfl,⟨K,L,M,N,rfl,y⟩,D⟩;have H:Below (w.heap.size+1) I V:=((Below.refl _ _).drew).trans (D.mono (by simp;omega));have m:=((uH O).drew.below D (by simp;omega));have IZ:=aa (show aw 0 V (.agg #[.bool K,.slice L N.length M]) z from⟨K,L,M,N,rfl,y.1,y.2.1,y.2.2.1,y.2.2.2.1,y.2.2.2.2.1,by have:=y.2.2.2.2.2;omega⟩);have y0:=m.c0;have y1:=m.c1;have y2:=m.c2;have f0:=m.free 0;have f1:=m.free 1;have f2:=m.free 2;have X5:=aa m;have U:=aa ((uH BB).trans (H.mono (by omega)));clear D y m))
 go_wp2
 have j2:aG V (.agg #[.bool K,.slice L N.length M,.int .i64 x]) z x:=⟨K,L,M,N,rfl,uH IZ⟩
 refine bodyPost_ret (v:=.agg #[.bool K,.slice L N.length M,.int .i64 x]) (by simp[results,Tryz.results131,go_sem,y0,y1,y2]) rfl ⟨_,rfl,j2.put3 (uH X5) _ _ _,aD (uH U) (by omega) _ _ _⟩
theorem uP{B f:Nat}{w:World}{v u:Value}{x y:Int}(h:aw B w v x)(l:aw f w u y)(m:x.natAbs<dy)(t:y.natAbs<dy):
  Calls Tryz.prog 86 #[v,u] w fun e d=>∃r,e=.returned r∧aE 513 w.heap.size d r (x+y)∧Below w.heap.size w d:=by
 obtain⟨G,ao,H,A,rfl,I,U,K,V⟩:=h.right m
 obtain⟨L,M,N,C,rfl,O,X,Q,Y⟩:=l.right t
 have:=uD G L ao M H N A C w I O (by omega) (by omega)
 rw[K,Q]at this
 exact this.mono fun e d ⟨r,z,D,F⟩=>⟨r,z,D.more (by omega),F⟩
theorem AA{s x l:Int}(h:eD s x l=0):x-l≤16384:=by
 unfold eD at h
 by_cases d:(up s x l).natAbs<dy∧x-l≤16384
 ·exact d.2
 ·rw[if_neg d]at h;exact absurd h (by decide)
theorem AB(f m:Bool)(ao D:Option Addr)(F G:Nat)(A B:List Nat)(x y:Int)(w:World)(hA:ag w ao F A)(hB:ag w D G B)(ra:av f A=true)(rb:av m B=true)(hx:-16384≤x∧x≤16384)(hy:-16384≤y∧y≤16384)(e1:eD (af f A) x (bO (af f A) x (af m B) y)=0)(e2:eD (af m B) y (bO (af f A) x (af m B) y)=0):
  Calls Tryz.prog 33 #[.agg #[.bool f,.slice ao A.length F,.int .i64 x],.agg #[.bool m,.slice D B.length G,.int .i64 y]] w fun r d=>∃v,r=.returned v∧aG d v (oM (dU (af f A) x (af m B) y)) (oE (dU (af f A) x (af m B) y) (bO (af f A) x (af m B) y))∧Below w.heap.size w d:=by
 have CL:=aa (fun d=>Ew f m ao D F G A.length B.length x y d)
 have M:=sf A.length B.length x y hx hy
 rw[GO ra rb]at CL M
 have g1:A.length≠0→bO (af f A) x (af m B) y≤x:=fun h=>by
  unfold bO
  rw[if_neg (fun e=>h ((aK ra).1 e))]
  split<;>omega
 have g2:B.length≠0→bO (af f A) x (af m B) y≤y:=fun h=>by
  unfold bO
  split
  ·omega
  ·rw[if_neg (fun e=>h ((aK rb).1 e))];omega
 obtain⟨z,hz⟩:∃z,dU (af f A) x (af m B) y=z:=⟨_,rfl⟩
 have X:z=up (af f A) x (bO (af f A) x (af m B) y)+up (af m B) y (bO (af f A) x (af m B) y):=by rw[←hz];rfl
 rw[hz]
 clear hz
 generalize bO (af f A) x (af m B) y=l at*
 have aI:=aa (fun d h=>pC f ao F A x l d h ra (fun h0=>⟨g1 h0,AA e1⟩) hx M)
 have a0:=aa (fun d h=>pC m D G B y l d h rb (fun h0=>⟨g2 h0,AA e2⟩) hy M)
 have Y:=aa (fun d u v (V:aw 0 d u (up (af f A) x l)) (iv:aw 0 d v (up (af m B) y l))=>uP V iv (kA e1) (kA e2))
 rw[←X]at Y
 have CO:=aa (fun d u B' (V:aE 513 B' d u z)=>ic l V (by decide) (by omega))
 clear ra rb e1 e2 X g1 g2 hx hy
 generalize oE z l=ox at*
 generalize oM z=om at*
 generalize up (af f A) x l=za at*
 generalize up (af m B) y l=zb at*
 obtain⟨be,bi⟩:=M
 have Z:Below w.heap.size w (((w.alloc (.cells #[.bool f,.slice ao A.length F,.int .i64 x] 47)).alloc (.cells #[.bool m,.slice D B.length G,.int .i64 y] 47)).alloc (.cells #[.bool false,.slice none 0 0,.int .i64 0] 47)):=
  (((Below.refl _ _).alloc (Nat.le_refl _) _).alloc (by simp) _).alloc (by simp;omega) _
 have K:az (((w.alloc (.cells #[.bool f,.slice ao A.length F,.int .i64 x] 47)).alloc (.cells #[.bool m,.slice D B.length G,.int .i64 y] 47)).alloc (.cells #[.bool false,.slice none 0 0,.int .i64 0] 47)) w.heap.size (.bool f) (.slice ao A.length F) (.int .i64 x):=((az.new _ _ _ _).old _).old _
 have L:az (((w.alloc (.cells #[.bool f,.slice ao A.length F,.int .i64 x] 47)).alloc (.cells #[.bool m,.slice D B.length G,.int .i64 y] 47)).alloc (.cells #[.bool false,.slice none 0 0,.int .i64 0] 47)) (w.heap.size+1) (.bool m) (.slice D B.length G) (.int .i64 y):=by
  have:=(az.new (w.alloc (.cells #[.bool f,.slice ao A.length F,.int .i64 x] 47)) (.bool m) (.slice D B.length G) (.int .i64 y)).old (.cells #[.bool false,.slice none 0 0,.int .i64 0] 47)
  simpa using this
 have N:az (((w.alloc (.cells #[.bool f,.slice ao A.length F,.int .i64 x] 47)).alloc (.cells #[.bool m,.slice D B.length G,.int .i64 y] 47)).alloc (.cells #[.bool false,.slice none 0 0,.int .i64 0] 47)) (w.heap.size+1+1) (.bool false) (.slice none 0 0) (.int .i64 0):=by
  have:=az.new ((w.alloc (.cells #[.bool f,.slice ao A.length F,.int .i64 x] 47)).alloc (.cells #[.bool m,.slice D B.length G,.int .i64 y] 47)) (.bool false) (.slice none 0 0) (.int .i64 0)
  simpa using this
 have B0:=aa Z;have X0:=aa K;have X1:=aa L;have X2:=aa N
 clear Z K L N
 go_enter Tryz.func33,Tryz.ntmps33
 go_wp2_with fail
 refine(uH CL _).mono ?_
 rintro r w1 ⟨rfl,t⟩
 have K:=(uH X0).all t;have L:=(uH X1).all t;have N:=(uH X2).all t
 have b1:=(uH B0).trans (t.mono (uH B0).size)
 have ae:=aa K;have aj:=aa L;have ak:=aa N;have B1:=aa b1
 clear t K L N b1 X0 X1 X2 B0 CL
 go_wp2_with fail
 refine au (fun W=>Below w.heap.size w W∧az W w.heap.size (.bool f) (.slice ao A.length F) (.int .i64 x)∧az W (w.heap.size+1) (.bool m) (.slice D B.length G) (.int .i64 y)∧az W (w.heap.size+1+1) (.bool false) (.slice none 0 0) (.int .i64 0)) ⟨uH B1,uH ae,uH aj,uH ak⟩ ?_
 clear B1 ae aj ak
 rintro U ⟨b0,K,L,N⟩
 have s0:w.heap.size+1+1<U.heap.size:=N.lt
 have hK:∀d,Below (w.heap.size+1+1) U d→Below (w.heap.size+1+1) U d∧d.cell? ⟨w.heap.size,0,none⟩=some (.bool f)∧d.cell? ⟨w.heap.size,1,none⟩=some (.slice ao A.length F)∧d.cell? ⟨w.heap.size,2,none⟩=some (.int .i64 x)∧d.cell? ⟨w.heap.size+1,0,none⟩=some (.bool m)∧d.cell? ⟨w.heap.size+1,1,none⟩=some (.slice D B.length G)∧d.cell? ⟨w.heap.size+1,2,none⟩=some (.int .i64 y):=fun d h=>
  ⟨h,(K.below h (by omega)).c0,(K.below h (by omega)).c1,(K.below h (by omega)).c2,(L.below h (by omega)).c0,(L.below h (by omega)).c1,(L.below h (by omega)).c2⟩
 have HK:=aa hK;have BB:=aa b0;have X2:=aa N
 clear hK b0 K L N
 go_region_held3(fun d=>Below (w.heap.size+1+1) U d∧d.cell? ⟨w.heap.size,0,none⟩=some (.bool f)∧d.cell? ⟨w.heap.size,1,none⟩=some (.slice ao A.length F)∧d.cell? ⟨w.heap.size,2,none⟩=some (.int .i64 x)∧d.cell? ⟨w.heap.size+1,0,none⟩=some (.bool m)∧d.cell? ⟨w.heap.size+1,1,none⟩=some (.slice D B.length G)∧d.cell? ⟨w.heap.size+1,2,none⟩=some (.int .i64 y))
  (first|exact uH HK _ (Below.refl _ _).drew|exact uH HK _ (by assumption)|exact uH HK _ (aD bb (by omega) _ _ _))
  (first|(go_at_call_of 87 (Value.agg #[.bool f,.slice ao A.length F,.int .i64 x]);refine(uH aI _ (hA.below ((uH BB).trans ((Below.refl _ _).drew)))).mono ?_;rintro e w3 ⟨v,rfl,⟨n1,a1,c1,L1,rfl,i1⟩,t⟩;have am:Below (w.heap.size+1+1) U w3:=((Below.refl _ _).drew).trans (t.mono (by simp;omega));have X3:=aa ((uH X2).drew.below t (by simp;omega));have IA:=aa (show aw 0 w3 (.agg #[.bool n1,.slice a1 L1.length c1]) za from⟨n1,a1,c1,L1,rfl,i1⟩);have s1:w.heap.size+1+1<w3.heap.size:=(by have:=t.size;simp at this;omega);have ax:=aa ((uH BB).trans (am.mono (by omega)));clear t i1)|(go_at_call_of 87 (Value.agg #[.bool m,.slice D B.length G,.int .i64 y]);refine(uH a0 _ (hB.below (uH ax))).mono ?_;rintro e w4 ⟨v,rfl,⟨n2,a2,c2,L2,rfl,i2⟩,H⟩;have a4:Below (w.heap.size+1+1) U w4:=am.trans (H.mono (by omega));have X4:=aa ((uH X3).below H (by omega));have a6:=aa ((uH IA).below H);have IB:=aa (show aw 0 w4 (.agg #[.bool n2,.slice a2 L2.length c2]) zb from⟨n2,a2,c2,L2,rfl,i2⟩);have s2:w.heap.size+1+1<w4.heap.size:=(by have:=H.size;omega);have a7:=aa ((uH ax).trans (H.mono (by omega)));clear H i2)|(go_at_call 86;refine(uH Y _ _ _ (uH a6) (uH IB)).mono ?_;rintro e w5 ⟨v,rfl,⟨n3,a3,c3,L3,rfl,i3⟩,I⟩;have a9:Below (w.heap.size+1+1) U w5:=a4.trans (I.mono (by omega));have X5:=aa ((uH X4).below I (by omega));have IZ:=aa (show aE 513 w4.heap.size w5 (.agg #[.bool n3,.slice a3 L3.length c3]) z from⟨n3,a3,c3,L3,rfl,i3⟩);have s3:w.heap.size+1+1<w5.heap.size:=(by have:=I.size;omega);have ba:=aa ((uH a7).trans (I.mono (by omega)));clear I i3)|(go_at_call 83;refine(uH CO _ _ _ (uH IZ)).mono ?_;rintro e w6 ⟨u,rfl,V,O⟩;obtain⟨n5,a5,c5,L5,rfl,i5⟩:=V.num;have bb:Below (w.heap.size+1+1) U w6:=a9.trans (O.mono (by omega));have Q:=(uH X5).below O (by omega);have y0:=Q.c0;have y1:=Q.c1;have y2:=Q.c2;have f0:=Q.free 0;have f1:=Q.free 1;have f2:=Q.free 2;have IU:=aa V;have X7:=aa Q;have bc:=aa ((uH ba).trans (O.mono (by omega)));clear O V i5 Q))
 go_wp2
 refine bodyPost_ret (v:=.agg #[.bool n5,.slice a5 L5.length c5,.int .i64 ox]) (by simp[results,Tryz.results33,go_sem,y0,y1,y2]) rfl ⟨_,rfl,(uH IU).put3 (uH X7) _ _ _,aD (uH bc) (by omega) _ _ _⟩
theorem AC(l f:Bool)(ao t:Option Addr)(m z:Nat)(A B:List Nat)(x y:Int)(w:World)(hA:ag w ao m A)(hB:ag w t z B)(ra:av l A=true)(X:av f B=true)(hx:-16384≤x∧x≤16384)(hy:-16384≤y∧y≤16384)(e1:eD (af l A) x (bO (af l A) x (-af f B) y)=0)(e2:eD (-af f B) y (bO (af l A) x (-af f B) y)=0):
  Calls Tryz.prog 76 #[.agg #[.bool l,.slice ao A.length m,.int .i64 x],.agg #[.bool f,.slice t B.length z,.int .i64 y]] w fun r d=>∃v,r=.returned v∧aG d v (oM (dU (af l A) x (-af f B) y)) (oE (dU (af l A) x (-af f B) y) (bO (af l A) x (-af f B) y))∧Below w.heap.size w d:=by
 have lb:=(ay X).1
 have tb:=m9 hB X
 have CN:=aa (fun d h=>Az f t z B y d h lb)
 have Y:=aa (fun d u (h:ag d ao m A) (M:aG d u (-af f B) y)=>show Calls Tryz.prog 33 #[.agg #[.bool l,.slice ao A.length m,.int .i64 x],u] d fun r N=>∃v,r=.returned v∧aG N v (oM (dU (af l A) x (-af f B) y)) (oE (dU (af l A) x (-af f B) y) (bO (af l A) x (-af f B) y))∧Below d.heap.size d N by
  obtain⟨n1,a1,c1,L1,rfl,q1,q2,q3,q4,q5⟩:=M.right (by rw[Int.natAbs_neg];exact tb)
  have:=AB l n1 ao a1 m c1 A L1 x y d h q1 ra q2 hx hy (by rw[q3];exact e1) (by rw[q3];exact e2)
  rwa[q3]at this)
 clear ra X hx hy e1 e2 tb
 generalize oE (dU (af l A) x (-af f B) y) (bO (af l A) x (-af f B) y)=ox at*
 generalize oM (dU (af l A) x (-af f B) y)=om at*
 generalize-af f B=sb at*
 have O:Below w.heap.size w (((w.alloc (.cells #[.bool l,.slice ao A.length m,.int .i64 x] 47)).alloc (.cells #[.bool f,.slice t B.length z,.int .i64 y] 47)).alloc (.cells #[.bool false,.slice none 0 0,.int .i64 0] 47)):=
  (((Below.refl _ _).alloc (Nat.le_refl _) _).alloc (by simp) _).alloc (by simp;omega) _
 have H:az (((w.alloc (.cells #[.bool l,.slice ao A.length m,.int .i64 x] 47)).alloc (.cells #[.bool f,.slice t B.length z,.int .i64 y] 47)).alloc (.cells #[.bool false,.slice none 0 0,.int .i64 0] 47)) w.heap.size (.bool l) (.slice ao A.length m) (.int .i64 x):=((az.new _ _ _ _).old _).old _
 have I:az (((w.alloc (.cells #[.bool l,.slice ao A.length m,.int .i64 x] 47)).alloc (.cells #[.bool f,.slice t B.length z,.int .i64 y] 47)).alloc (.cells #[.bool false,.slice none 0 0,.int .i64 0] 47)) (w.heap.size+1) (.bool f) (.slice t B.length z) (.int .i64 y):=by
  have:=(az.new (w.alloc (.cells #[.bool l,.slice ao A.length m,.int .i64 x] 47)) (.bool f) (.slice t B.length z) (.int .i64 y)).old (.cells #[.bool false,.slice none 0 0,.int .i64 0] 47)
  simpa using this
 have K:az (((w.alloc (.cells #[.bool l,.slice ao A.length m,.int .i64 x] 47)).alloc (.cells #[.bool f,.slice t B.length z,.int .i64 y] 47)).alloc (.cells #[.bool false,.slice none 0 0,.int .i64 0] 47)) (w.heap.size+1+1) (.bool false) (.slice none 0 0) (.int .i64 0):=by
  have:=az.new ((w.alloc (.cells #[.bool l,.slice ao A.length m,.int .i64 x] 47)).alloc (.cells #[.bool f,.slice t B.length z,.int .i64 y] 47)) (.bool false) (.slice none 0 0) (.int .i64 0)
  simpa using this
 have B0:=aa O;have X0:=aa H;have X1:=aa I;have V:=aa K
 clear O H I K
 go_enter Tryz.func76,Tryz.ntmps76
 go_wp2_with fail
 refine au (fun W=>Below w.heap.size w W∧az W w.heap.size (.bool l) (.slice ao A.length m) (.int .i64 x)∧az W (w.heap.size+1) (.bool f) (.slice t B.length z) (.int .i64 y)∧az W (w.heap.size+1+1) (.bool false) (.slice none 0 0) (.int .i64 0)) ⟨uH B0,uH X0,uH X1,uH V⟩ ?_
 clear B0 X0 X1 V
 rintro L ⟨b0,H,I,K⟩
 have s0:w.heap.size+1+1<L.heap.size:=K.lt
 have hK:∀d,Below (w.heap.size+1+1) L d→Below (w.heap.size+1+1) L d∧d.cell? ⟨w.heap.size,0,none⟩=some (.bool l)∧d.cell? ⟨w.heap.size,1,none⟩=some (.slice ao A.length m)∧d.cell? ⟨w.heap.size,2,none⟩=some (.int .i64 x)∧d.cell? ⟨w.heap.size+1,0,none⟩=some (.bool f)∧d.cell? ⟨w.heap.size+1,1,none⟩=some (.slice t B.length z)∧d.cell? ⟨w.heap.size+1,2,none⟩=some (.int .i64 y):=fun d h=>
  ⟨h,(H.below h (by omega)).c0,(H.below h (by omega)).c1,(H.below h (by omega)).c2,(I.below h (by omega)).c0,(I.below h (by omega)).c1,(I.below h (by omega)).c2⟩
 have Z:=aa hK;have BB:=aa b0;have V:=aa K
 clear hK b0 H I K
 go_region_held3(fun d=>Below (w.heap.size+1+1) L d∧d.cell? ⟨w.heap.size,0,none⟩=some (.bool l)∧d.cell? ⟨w.heap.size,1,none⟩=some (.slice ao A.length m)∧d.cell? ⟨w.heap.size,2,none⟩=some (.int .i64 x)∧d.cell? ⟨w.heap.size+1,0,none⟩=some (.bool f)∧d.cell? ⟨w.heap.size+1,1,none⟩=some (.slice t B.length z)∧d.cell? ⟨w.heap.size+1,2,none⟩=some (.int .i64 y))
  (first|exact uH Z _ (Below.refl _ _).drew|exact uH Z _ (by assumption)|exact uH Z _ (aD ae (by omega) _ _ _))
  (first|(go_at_call 131;refine(uH CN _ (hB.below ((uH BB).trans ((Below.refl _ _).drew)))).mono ?_;rintro e w3 ⟨v,rfl,iv,D⟩;obtain⟨n1,a1,c1,L1,rfl,i1⟩:=iv.num;have Q:Below (w.heap.size+1+1) L w3:=((Below.refl _ _).drew).trans (D.mono (by simp;omega));have X3:=aa ((uH V).drew.below D (by simp;omega));have IN:=aa iv;have s1:w.heap.size+1+1<w3.heap.size:=(by have:=D.size;simp at this;omega);have U:=aa ((uH BB).trans (Q.mono (by omega)));clear D i1 iv)|(go_at_call 33;refine(uH Y _ _ (hA.below (uH U)) (uH IN)).mono ?_;rintro e w6 ⟨u,rfl,M,F⟩;obtain⟨n5,a5,c5,L5,rfl,i5⟩:=M.num;have ae:Below (w.heap.size+1+1) L w6:=Q.trans (F.mono (by omega));have G:=(uH X3).below F (by omega);have y0:=G.c0;have y1:=G.c1;have y2:=G.c2;have f0:=G.free 0;have f1:=G.free 1;have f2:=G.free 2;have IU:=aa M;have X7:=aa G;have aj:=aa ((uH U).trans (F.mono (by omega)));clear F M i5 G))
 go_wp2
 refine bodyPost_ret (v:=.agg #[.bool n5,.slice a5 L5.length c5,.int .i64 ox]) (by simp[results,Tryz.results76,go_sem,y0,y1,y2]) rfl ⟨_,rfl,(uH IU).put3 (uH X7) _ _ _,aD (uH aj) (by omega) _ _ _⟩
end Go.Proofs.YtlnphkioddknfaaGreatDoor
namespace Go.Proofs.YtlnphkioddknfaaGreatDoor
open Go.RowKit
theorem AD(s x l:Int):up (-s) x l= -up s x l:=by unfold up;rw[Int.neg_mul]
theorem Ex(s x l:Int):eD (-s) x l=eD s x l:=by unfold eD;rw[AD,Int.natAbs_neg]
theorem ng(f x d y:Int):bO f x (-d) y=bO f x d y:=by
 unfold bO
 by_cases h:d=0
 ·subst h;rfl
 ·rw[if_neg h,if_neg (show¬-d=0 by omega)]
attribute [local go_sem ↓] Go.wp_at_zero Go.wp_at_succ
theorem Ey{d x f y:Int}(h:eD d x (bO d x f y)=0)(l:eD f y (bO d x f y)=0)(m:(dU d x f y).natAbs<dy):
  r7 d x f y=cP (dU d x f y) (bO d x f y)∧r8 d x f y=dM (dU d x f y) (bO d x f y)∧r9 d x f y=dX (dU d x f y) (bO d x f y):=by
 have t:kz d x f y=true:=decide_eq_true ⟨h,l,m⟩
 unfold r7 r8 r9
 rw[t]
 exact⟨rfl,rfl,rfl⟩
end Go.Proofs.YtlnphkioddknfaaGreatDoor
