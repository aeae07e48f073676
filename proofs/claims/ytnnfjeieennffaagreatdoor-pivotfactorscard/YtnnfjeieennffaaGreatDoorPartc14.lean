/- Part 14 of the texts. -/
import Derived.Test.YtnnfjeieennffaaGreatDoorPartc13
set_option maxHeartbeats 4000000
namespace Go.Proofs.YtnnfjeieennffaaGreatDoor
open Go.RowKit
attribute [local go_sem ↓] Go.wp_at_zero Go.wp_at_succ
def le(n m:Nat)(x y:Int):Int:=if n=0 then y else if m=0 then x else min x y
theorem Gz{h l:Bool}{A B:List Nat}{x y:Int}(m:ar h A=true)(t:ar l B=true):le A.length B.length x y=bK (af h A) x (af l B) y:=by
 unfold le bK
 by_cases d:A.length=0
 ·rw[if_pos d,if_pos ((aJ m).2 d)]
 ·rw[if_neg d,if_neg (fun e=>d ((aJ m).1 e))]
  by_cases f:B.length=0
  ·rw[if_pos f,if_pos ((aJ t).2 f)]
  ·rw[if_neg f,if_neg (fun e=>f ((aJ t).1 e))]
theorem Ee(F G:Bool)(H K:Option Addr)(L M n m:Nat)(x y:Int)(w:World):
  Calls Tryz.prog 54 #[.agg #[.bool F,.slice H n L,.int .i64 x],.agg #[.bool G,.slice K m M,.int .i64 y]] w fun r w'=>r=.returned (.int .i64 (le n m x y))∧Below w.heap.size w w':=by
 have z:Below w.heap.size w ((w.alloc (.cells #[.bool F,.slice H n L,.int .i64 x] 52)).alloc (.cells #[.bool G,.slice K m M,.int .i64 y] 52)):=((Below.refl _ _).alloc (Nat.le_refl _) _).alloc (by simp) _
 have A:=aa z
 clear z
 by_cases h:n=0
 ·have d:le n m x y=y:=by unfold le;rw[if_pos h]
  rw[d]
  subst h
  clear d
  go_enter Tryz.func54,Tryz.ntmps54
  go_wp2
  go_ret
  exact⟨rfl,uH A⟩
 have N:((n:Int)==0)=false:=by rw[beq_eq_false_iff_ne];omega
 by_cases D:m=0
 ·have d:le n m x y=x:=by unfold le;rw[if_neg h,if_pos D]
  rw[d]
  subst D
  clear d h
  go_enter Tryz.func54,Tryz.ntmps54
  go_wp2
  go_ret
  exact⟨rfl,uH A⟩
 have O:((m:Int)==0)=false:=by rw[beq_eq_false_iff_ne];omega
 have t:=aa (show le n m x y=min x y by unfold le;rw[if_neg h,if_neg D])
 generalize le n m x y=l at*
 clear h D
 rcases(show x<y∨x=y∨y<x by omega)with f|f|f
 ·have d:l=x:=by rw[uH t];omega
  subst d
  clear t
  go_enter Tryz.func54,Tryz.ntmps54
  go_wp2
  go_ret
  exact⟨rfl,uH A⟩
 ·have d:l=x:=by rw[uH t];omega
  subst f
  subst d
  clear t
  go_enter Tryz.func54,Tryz.ntmps54
  go_wp2
  go_ret
  exact⟨rfl,uH A⟩
 ·have d:l=y:=by rw[uH t];omega
  subst d
  clear t
  go_enter Tryz.func54,Tryz.ntmps54
  go_wp2
  go_ret
  exact⟨rfl,uH A⟩
theorem sr(n m:Nat)(x y:Int)(d:-16384≤x∧x≤16384)(f:-16384≤y∧y≤16384):-16384≤le n m x y∧le n m x y≤16384:=by
 unfold le
 split
 ·omega
 ·split<;>omega
theorem pO(d:Bool)(m:Option Addr)(t:Nat)(A:List Nat)(x l:Int)(w:World)(hA:ag w m t A)(G:ar d A=true)(h:A.length≠0→l≤x∧x-l≤16384)(hx:-16384≤x∧x≤16384)(hl:-16384≤l∧l≤16384):
  Calls Tryz.prog 57 #[.agg #[.bool d,.slice m A.length t,.int .i64 x],.int .i64 l] w fun r w'=>∃v,r=.returned v∧au 0 w' v (up (af d A) x l)∧Below w.heap.size w w':=by
 have la:=(ay G).1
 have M:=aa (show A.length=0→up (af d A) x l=0∧d=false from fun f=>by
  refine⟨by rw[(aJ G).2 f,fU],?_⟩
  cases d
  ·rfl
  ·exact absurd (List.length_eq_zero_iff.1 f) ((ay G).2.2 rfl))
 have N:=aa (fun w' L (f:A.length≠0)=>show Calls Tryz.prog 101 #[.agg #[.bool d,.slice m A.length t],.int .i64 (x-l)] w' fun e H=>∃v,e=.returned v∧au 0 H v (up (af d A) x l)∧Below w'.heap.size w' H by
  have:=qz d m t A (x-l) w' L G (by have:=h f;omega)
  rwa[r8 d A (x-l) (by have:=h f;omega)]at this)
 clear h G
 generalize up (af d A) x l=z at*
 obtain⟨aj,am⟩:=hx
 obtain⟨ax,aI⟩:=hl
 have K:Below w.heap.size w ((w.alloc (.cells #[.bool d,.slice m A.length t,.int .i64 x] 52)).alloc (.cells #[.bool false,.slice none 0 0] 50)):=((Below.refl _ _).alloc (Nat.le_refl _) _).alloc (by simp) _
 have V:aB ((w.alloc (.cells #[.bool d,.slice m A.length t,.int .i64 x] 52)).alloc (.cells #[.bool false,.slice none 0 0] 50)) w.heap.size (.bool d) (.slice m A.length t) (.int .i64 x):=(aB.new _ _ _ _).old _
 have D:aC ((w.alloc (.cells #[.bool d,.slice m A.length t,.int .i64 x] 52)).alloc (.cells #[.bool false,.slice none 0 0] 50)) (w.heap.size+1) (.bool false) (.slice none 0 0):=by
  have:=aC.new (w.alloc (.cells #[.bool d,.slice m A.length t,.int .i64 x] 52)) (.bool false) (.slice none 0 0)
  simpa using this
 have O:=aa K;have X0:=aa V;have X2:=aa D
 clear K V D
 by_cases f:A.length=0
 ·obtain⟨rfl,rfl⟩:=uH M f
  have Q:A= []:=List.length_eq_zero_iff.1 f
  subst Q
  clear M N f
  go_enter Tryz.func57,Tryz.ntmps57
  go_wp2
  refine bodyPost_ret (v:=.agg #[.bool false,.slice m 0 t]) (by simp[results,Tryz.results57,go_sem]) rfl ⟨_,rfl,au.zero _ _ _ _,?_⟩
  exact((Below.refl w.heap.size w).alloc (Nat.le_refl _) _).alloc (by simp) _
 have ae:((A.length:Int)==0)=false:=by rw[beq_eq_false_iff_ne];omega
 have U:=aa (fun w' L=>uH N w' L f)
 clear M N f
 go_enter Tryz.func57,Tryz.ntmps57
 go_wp2_with fail
 refine(uH U _ (hA.below (uH O))).mono ?_
 rintro r w2 ⟨v,rfl,⟨Z,a3,c3,L3,rfl,i3⟩,F⟩
 have D:=(uH X2).all F
 have X:=(uH O).trans (F.mono (uH O).size)
 have y0:=D.c0;have y1:=D.c1;have f0:=D.free 0;have f1:=D.free 1
 have X3:=aa D;have B2:=aa X;have Y:=aa i3
 clear D X F i3
 go_wp2
 refine bodyPost_ret (v:=.agg #[.bool Z,.slice a3 L3.length c3]) (by simp[results,Tryz.results57,go_sem,y0,y1]) rfl ⟨_,rfl,⟨Z,a3,c3,L3,rfl,(uH Y).1.box (uH X3) _ _,(uH Y).2⟩,bQ (uH B2) (by omega) _ _⟩
theorem Ad(d:Bool)(f:Option Addr)(l:Nat)(A:List Nat)(x:Int)(w:World)(hA:ag w f l A)(la:A.length≤512):
  Calls Tryz.prog 108 #[.agg #[.bool d,.slice f A.length l,.int .i64 x]] w fun r w'=>∃v,r=.returned v∧aG w' v (-af d A) x∧Below w.heap.size w w':=by
 have CN:=aa (fun w' h=>ni d f l A w' h (by omega))
 generalize-af d A=z at*
 have H:Below w.heap.size w ((w.alloc (.cells #[.bool d,.slice f A.length l,.int .i64 x] 52)).alloc (.cells #[.bool false,.slice none 0 0,.int .i64 0] 52)):=((Below.refl _ _).alloc (Nat.le_refl _) _).alloc (by simp) _
 have t:aB ((w.alloc (.cells #[.bool d,.slice f A.length l,.int .i64 x] 52)).alloc (.cells #[.bool false,.slice none 0 0,.int .i64 0] 52)) w.heap.size (.bool d) (.slice f A.length l) (.int .i64 x):=(aB.new _ _ _ _).old _
 have G:aB ((w.alloc (.cells #[.bool d,.slice f A.length l,.int .i64 x] 52)).alloc (.cells #[.bool false,.slice none 0 0,.int .i64 0] 52)) (w.heap.size+1) (.bool false) (.slice none 0 0) (.int .i64 0):=by
  have:=aB.new (w.alloc (.cells #[.bool d,.slice f A.length l,.int .i64 x] 52)) (.bool false) (.slice none 0 0) (.int .i64 0)
  simpa using this
 have Z:=aa H;have X0:=aa t;have U:=aa G
 clear H t G
 go_enter Tryz.func108,Tryz.ntmps108
 go_wp2_with fail
 refine aq (fun W=>Below w.heap.size w W∧aB W w.heap.size (.bool d) (.slice f A.length l) (.int .i64 x)∧aB W (w.heap.size+1) (.bool false) (.slice none 0 0) (.int .i64 0)) ⟨uH Z,uH X0,uH U⟩ ?_
 clear Z X0 U
 rintro L ⟨b0,t,G⟩
 have s0:w.heap.size+1<L.heap.size:=G.lt
 have hK:∀w',Below (w.heap.size+1) L w'→Below (w.heap.size+1) L w'∧w'.cell? ⟨w.heap.size,0,none⟩=some (.bool d)∧w'.cell? ⟨w.heap.size,1,none⟩=some (.slice f A.length l)∧w'.cell? ⟨w.heap.size,2,none⟩=some (.int .i64 x):=fun w' h=>
  ⟨h,(t.below h (by omega)).c0,(t.below h (by omega)).c1,(t.below h (by omega)).c2⟩
 have V:=aa hK;have BB:=aa b0;have U:=aa G
 clear hK b0 t G
 go_region_held3(fun w'=>Below (w.heap.size+1) L w'∧w'.cell? ⟨w.heap.size,0,none⟩=some (.bool d)∧w'.cell? ⟨w.heap.size,1,none⟩=some (.slice f A.length l)∧w'.cell? ⟨w.heap.size,2,none⟩=some (.int .i64 x))
  (first|exact uH V _ (Below.refl _ _).drew|exact uH V _ (by assumption)|exact uH V _ (aD K (by omega) _ _ _))
  (first|(go_at_call 105;refine(uH CN _ (hA.below ((uH BB).trans ((Below.refl _ _).drew)))).mono ?_;rintro e Y ⟨v,rfl,⟨M,N,O,Q,rfl,D⟩,F⟩;have K:Below (w.heap.size+1) L Y:=((Below.refl _ _).drew).trans (F.mono (by simp;omega));have m:=((uH U).drew.below F (by simp;omega));have IZ:=aa (show au 0 Y (.agg #[.bool M,.slice N Q.length O]) z from⟨M,N,O,Q,rfl,D.1,D.2.1,D.2.2.1,D.2.2.2.1,D.2.2.2.2.1,by have:=D.2.2.2.2.2;omega⟩);have y0:=m.c0;have y1:=m.c1;have y2:=m.c2;have f0:=m.free 0;have f1:=m.free 1;have f2:=m.free 2;have X5:=aa m;have X:=aa ((uH BB).trans (K.mono (by omega)));clear F D m))
 go_wp2
 have j2:aG Y (.agg #[.bool M,.slice N Q.length O,.int .i64 x]) z x:=⟨M,N,O,Q,rfl,uH IZ⟩
 refine bodyPost_ret (v:=.agg #[.bool M,.slice N Q.length O,.int .i64 x]) (by simp[results,Tryz.results108,go_sem,y0,y1,y2]) rfl ⟨_,rfl,j2.put3 (uH X5) _ _ _,aD (uH X) (by omega) _ _ _⟩
theorem uL{B d:Nat}{w:World}{v u:Value}{x y:Int}(f:au B w v x)(h:au d w u y)(l:x.natAbs<dE)(m:y.natAbs<dE):
  Calls Tryz.prog 56 #[v,u] w fun e w'=>∃r,e=.returned r∧aE 513 w.heap.size w' r (x+y)∧Below w.heap.size w w':=by
 obtain⟨F,G,H,A,rfl,K,V,L,X⟩:=f.right l
 obtain⟨M,N,O,C,rfl,Q,Y,U,Z⟩:=h.right m
 have:=uz F M G N H O A C w K Q (by omega) (by omega)
 rw[L,U]at this
 exact this.mono fun e w' ⟨r,t,z,D⟩=>⟨r,t,z.more (by omega),D⟩
theorem Ae{s x l:Int}(h:eM s x l=0):x-l≤16384:=by
 unfold eM at h
 by_cases d:(up s x l).natAbs<dE∧x-l≤16384
 ·exact d.2
 ·rw[if_neg d]at h;exact absurd h (by decide)
theorem Af(d f:Bool)(t D:Option Addr)(F G:Nat)(A B:List Nat)(x y:Int)(w:World)(hA:ag w t F A)(hB:ag w D G B)(ra:ar d A=true)(rb:ar f B=true)(hx:-16384≤x∧x≤16384)(hy:-16384≤y∧y≤16384)(e1:eM (af d A) x (bK (af d A) x (af f B) y)=0)(e2:eM (af f B) y (bK (af d A) x (af f B) y)=0):
  Calls Tryz.prog 22 #[.agg #[.bool d,.slice t A.length F,.int .i64 x],.agg #[.bool f,.slice D B.length G,.int .i64 y]] w fun r w'=>∃v,r=.returned v∧aG w' v (oM (dY (af d A) x (af f B) y)) (oE (dY (af d A) x (af f B) y) (bK (af d A) x (af f B) y))∧Below w.heap.size w w':=by
 have CL:=aa (fun w'=>Ee d f t D F G A.length B.length x y w')
 have N:=sr A.length B.length x y hx hy
 rw[Gz ra rb]at CL N
 have g1:A.length≠0→bK (af d A) x (af f B) y≤x:=fun h=>by
  unfold bK
  rw[if_neg (fun e=>h ((aJ ra).1 e))]
  split<;>omega
 have g2:B.length≠0→bK (af d A) x (af f B) y≤y:=fun h=>by
  unfold bK
  split
  ·omega
  ·rw[if_neg (fun e=>h ((aJ rb).1 e))];omega
 obtain⟨z,hz⟩:∃z,dY (af d A) x (af f B) y=z:=⟨_,rfl⟩
 have Y:z=up (af d A) x (bK (af d A) x (af f B) y)+up (af f B) y (bK (af d A) x (af f B) y):=by rw[←hz];rfl
 rw[hz]
 clear hz
 generalize bK (af d A) x (af f B) y=l at*
 have a4:=aa (fun w' h=>pO d t F A x l w' h ra (fun h0=>⟨g1 h0,Ae e1⟩) hx N)
 have a6:=aa (fun w' h=>pO f D G B y l w' h rb (fun h0=>⟨g2 h0,Ae e2⟩) hy N)
 have Z:=aa (fun w' u v (X:au 0 w' u (up (af d A) x l)) (iv:au 0 w' v (up (af f B) y l))=>uL X iv (kr e1) (kr e2))
 rw[←Y]at Z
 have CO:=aa (fun w' u B' (X:aE 513 B' w' u z)=>gY l X (by decide) (by omega))
 clear ra rb e1 e2 Y g1 g2 hx hy
 generalize oE z l=ox at*
 generalize oM z=om at*
 generalize up (af d A) x l=za at*
 generalize up (af f B) y l=zb at*
 obtain⟨bj,bm⟩:=N
 have ae:Below w.heap.size w (((w.alloc (.cells #[.bool d,.slice t A.length F,.int .i64 x] 52)).alloc (.cells #[.bool f,.slice D B.length G,.int .i64 y] 52)).alloc (.cells #[.bool false,.slice none 0 0,.int .i64 0] 52)):=
  (((Below.refl _ _).alloc (Nat.le_refl _) _).alloc (by simp) _).alloc (by simp;omega) _
 have L:aB (((w.alloc (.cells #[.bool d,.slice t A.length F,.int .i64 x] 52)).alloc (.cells #[.bool f,.slice D B.length G,.int .i64 y] 52)).alloc (.cells #[.bool false,.slice none 0 0,.int .i64 0] 52)) w.heap.size (.bool d) (.slice t A.length F) (.int .i64 x):=((aB.new _ _ _ _).old _).old _
 have M:aB (((w.alloc (.cells #[.bool d,.slice t A.length F,.int .i64 x] 52)).alloc (.cells #[.bool f,.slice D B.length G,.int .i64 y] 52)).alloc (.cells #[.bool false,.slice none 0 0,.int .i64 0] 52)) (w.heap.size+1) (.bool f) (.slice D B.length G) (.int .i64 y):=by
  have:=(aB.new (w.alloc (.cells #[.bool d,.slice t A.length F,.int .i64 x] 52)) (.bool f) (.slice D B.length G) (.int .i64 y)).old (.cells #[.bool false,.slice none 0 0,.int .i64 0] 52)
  simpa using this
 have O:aB (((w.alloc (.cells #[.bool d,.slice t A.length F,.int .i64 x] 52)).alloc (.cells #[.bool f,.slice D B.length G,.int .i64 y] 52)).alloc (.cells #[.bool false,.slice none 0 0,.int .i64 0] 52)) (w.heap.size+1+1) (.bool false) (.slice none 0 0) (.int .i64 0):=by
  have:=aB.new ((w.alloc (.cells #[.bool d,.slice t A.length F,.int .i64 x] 52)).alloc (.cells #[.bool f,.slice D B.length G,.int .i64 y] 52)) (.bool false) (.slice none 0 0) (.int .i64 0)
  simpa using this
 have B0:=aa ae;have X0:=aa L;have X1:=aa M;have X2:=aa O
 clear ae L M O
 go_enter Tryz.func22,Tryz.ntmps22
 go_wp2_with fail
 refine(uH CL _).mono ?_
 rintro r w1 ⟨rfl,m⟩
 have L:=(uH X0).all m;have M:=(uH X1).all m;have O:=(uH X2).all m
 have b1:=(uH B0).trans (m.mono (uH B0).size)
 have aj:=aa L;have am:=aa M;have ax:=aa O;have B1:=aa b1
 clear m L M O b1 X0 X1 X2 B0 CL
 go_wp2_with fail
 refine aq (fun W=>Below w.heap.size w W∧aB W w.heap.size (.bool d) (.slice t A.length F) (.int .i64 x)∧aB W (w.heap.size+1) (.bool f) (.slice D B.length G) (.int .i64 y)∧aB W (w.heap.size+1+1) (.bool false) (.slice none 0 0) (.int .i64 0)) ⟨uH B1,uH aj,uH am,uH ax⟩ ?_
 clear B1 aj am ax
 rintro V ⟨b0,L,M,O⟩
 have s0:w.heap.size+1+1<V.heap.size:=O.lt
 have hK:∀w',Below (w.heap.size+1+1) V w'→Below (w.heap.size+1+1) V w'∧w'.cell? ⟨w.heap.size,0,none⟩=some (.bool d)∧w'.cell? ⟨w.heap.size,1,none⟩=some (.slice t A.length F)∧w'.cell? ⟨w.heap.size,2,none⟩=some (.int .i64 x)∧w'.cell? ⟨w.heap.size+1,0,none⟩=some (.bool f)∧w'.cell? ⟨w.heap.size+1,1,none⟩=some (.slice D B.length G)∧w'.cell? ⟨w.heap.size+1,2,none⟩=some (.int .i64 y):=fun w' h=>
  ⟨h,(L.below h (by omega)).c0,(L.below h (by omega)).c1,(L.below h (by omega)).c2,(M.below h (by omega)).c0,(M.below h (by omega)).c1,(M.below h (by omega)).c2⟩
 have HK:=aa hK;have BB:=aa b0;have X2:=aa O
 clear hK b0 L M O
 go_region_held3(fun w'=>Below (w.heap.size+1+1) V w'∧w'.cell? ⟨w.heap.size,0,none⟩=some (.bool d)∧w'.cell? ⟨w.heap.size,1,none⟩=some (.slice t A.length F)∧w'.cell? ⟨w.heap.size,2,none⟩=some (.int .i64 x)∧w'.cell? ⟨w.heap.size+1,0,none⟩=some (.bool f)∧w'.cell? ⟨w.heap.size+1,1,none⟩=some (.slice D B.length G)∧w'.cell? ⟨w.heap.size+1,2,none⟩=some (.int .i64 y))
  (first|exact uH HK _ (Below.refl _ _).drew|exact uH HK _ (by assumption)|exact uH HK _ (aD be (by omega) _ _ _))
  (first|(go_at_call_of 57 (Value.agg #[.bool d,.slice t A.length F,.int .i64 x]);refine(uH a4 _ (hA.below ((uH BB).trans ((Below.refl _ _).drew)))).mono ?_;rintro e w3 ⟨v,rfl,⟨n1,a1,c1,L1,rfl,i1⟩,m⟩;have aI:Below (w.heap.size+1+1) V w3:=((Below.refl _ _).drew).trans (m.mono (by simp;omega));have X3:=aa ((uH X2).drew.below m (by simp;omega));have IA:=aa (show au 0 w3 (.agg #[.bool n1,.slice a1 L1.length c1]) za from⟨n1,a1,c1,L1,rfl,i1⟩);have s1:w.heap.size+1+1<w3.heap.size:=(by have:=m.size;simp at this;omega);have a0:=aa ((uH BB).trans (aI.mono (by omega)));clear m i1)|(go_at_call_of 57 (Value.agg #[.bool f,.slice D B.length G,.int .i64 y]);refine(uH a6 _ (hB.below (uH a0))).mono ?_;rintro e w4 ⟨v,rfl,⟨n2,a2,c2,L2,rfl,i2⟩,H⟩;have a7:Below (w.heap.size+1+1) V w4:=aI.trans (H.mono (by omega));have X4:=aa ((uH X3).below H (by omega));have a9:=aa ((uH IA).below H);have IB:=aa (show au 0 w4 (.agg #[.bool n2,.slice a2 L2.length c2]) zb from⟨n2,a2,c2,L2,rfl,i2⟩);have s2:w.heap.size+1+1<w4.heap.size:=(by have:=H.size;omega);have ba:=aa ((uH a0).trans (H.mono (by omega)));clear H i2)|(go_at_call 56;refine(uH Z _ _ _ (uH a9) (uH IB)).mono ?_;rintro e w5 ⟨v,rfl,⟨n3,a3,c3,L3,rfl,i3⟩,K⟩;have bb:Below (w.heap.size+1+1) V w5:=a7.trans (K.mono (by omega));have X5:=aa ((uH X4).below K (by omega));have IZ:=aa (show aE 513 w4.heap.size w5 (.agg #[.bool n3,.slice a3 L3.length c3]) z from⟨n3,a3,c3,L3,rfl,i3⟩);have s3:w.heap.size+1+1<w5.heap.size:=(by have:=K.size;omega);have bc:=aa ((uH ba).trans (K.mono (by omega)));clear K i3)|(go_at_call 55;refine(uH CO _ _ _ (uH IZ)).mono ?_;rintro e w6 ⟨u,rfl,X,Q⟩;obtain⟨n5,a5,c5,L5,rfl,i5⟩:=X.num;have be:Below (w.heap.size+1+1) V w6:=bb.trans (Q.mono (by omega));have U:=(uH X5).below Q (by omega);have y0:=U.c0;have y1:=U.c1;have y2:=U.c2;have f0:=U.free 0;have f1:=U.free 1;have f2:=U.free 2;have IU:=aa X;have X7:=aa U;have bi:=aa ((uH bc).trans (Q.mono (by omega)));clear Q X i5 U))
 go_wp2
 refine bodyPost_ret (v:=.agg #[.bool n5,.slice a5 L5.length c5,.int .i64 ox]) (by simp[results,Tryz.results22,go_sem,y0,y1,y2]) rfl ⟨_,rfl,(uH IU).put3 (uH X7) _ _ _,aD (uH bi) (by omega) _ _ _⟩
theorem Ag(f d:Bool)(l t:Option Addr)(m z:Nat)(A B:List Nat)(x y:Int)(w:World)(hA:ag w l m A)(hB:ag w t z B)(ra:ar f A=true)(Y:ar d B=true)(hx:-16384≤x∧x≤16384)(hy:-16384≤y∧y≤16384)(e1:eM (af f A) x (bK (af f A) x (-af d B) y)=0)(e2:eM (-af d B) y (bK (af f A) x (-af d B) y)=0):
  Calls Tryz.prog 62 #[.agg #[.bool f,.slice l A.length m,.int .i64 x],.agg #[.bool d,.slice t B.length z,.int .i64 y]] w fun r w'=>∃v,r=.returned v∧aG w' v (oM (dY (af f A) x (-af d B) y)) (oE (dY (af f A) x (-af d B) y) (bK (af f A) x (-af d B) y))∧Below w.heap.size w w':=by
 have lb:=(ay Y).1
 have tb:=nz hB Y
 have CN:=aa (fun w' h=>Ad d t z B y w' h lb)
 have Z:=aa (fun w' u (h:ag w' l m A) (N:aG w' u (-af d B) y)=>show Calls Tryz.prog 22 #[.agg #[.bool f,.slice l A.length m,.int .i64 x],u] w' fun r O=>∃v,r=.returned v∧aG O v (oM (dY (af f A) x (-af d B) y)) (oE (dY (af f A) x (-af d B) y) (bK (af f A) x (-af d B) y))∧Below w'.heap.size w' O by
  obtain⟨n1,a1,c1,L1,rfl,q1,q2,q3,q4,q5⟩:=N.right (by rw[Int.natAbs_neg];exact tb)
  have:=Af f n1 l a1 m c1 A L1 x y w' h q1 ra q2 hx hy (by rw[q3];exact e1) (by rw[q3];exact e2)
  rwa[q3]at this)
 clear ra Y hx hy e1 e2 tb
 generalize oE (dY (af f A) x (-af d B) y) (bK (af f A) x (-af d B) y)=ox at*
 generalize oM (dY (af f A) x (-af d B) y)=om at*
 generalize-af d B=sb at*
 have Q:Below w.heap.size w (((w.alloc (.cells #[.bool f,.slice l A.length m,.int .i64 x] 52)).alloc (.cells #[.bool d,.slice t B.length z,.int .i64 y] 52)).alloc (.cells #[.bool false,.slice none 0 0,.int .i64 0] 52)):=
  (((Below.refl _ _).alloc (Nat.le_refl _) _).alloc (by simp) _).alloc (by simp;omega) _
 have H:aB (((w.alloc (.cells #[.bool f,.slice l A.length m,.int .i64 x] 52)).alloc (.cells #[.bool d,.slice t B.length z,.int .i64 y] 52)).alloc (.cells #[.bool false,.slice none 0 0,.int .i64 0] 52)) w.heap.size (.bool f) (.slice l A.length m) (.int .i64 x):=((aB.new _ _ _ _).old _).old _
 have K:aB (((w.alloc (.cells #[.bool f,.slice l A.length m,.int .i64 x] 52)).alloc (.cells #[.bool d,.slice t B.length z,.int .i64 y] 52)).alloc (.cells #[.bool false,.slice none 0 0,.int .i64 0] 52)) (w.heap.size+1) (.bool d) (.slice t B.length z) (.int .i64 y):=by
  have:=(aB.new (w.alloc (.cells #[.bool f,.slice l A.length m,.int .i64 x] 52)) (.bool d) (.slice t B.length z) (.int .i64 y)).old (.cells #[.bool false,.slice none 0 0,.int .i64 0] 52)
  simpa using this
 have L:aB (((w.alloc (.cells #[.bool f,.slice l A.length m,.int .i64 x] 52)).alloc (.cells #[.bool d,.slice t B.length z,.int .i64 y] 52)).alloc (.cells #[.bool false,.slice none 0 0,.int .i64 0] 52)) (w.heap.size+1+1) (.bool false) (.slice none 0 0) (.int .i64 0):=by
  have:=aB.new ((w.alloc (.cells #[.bool f,.slice l A.length m,.int .i64 x] 52)).alloc (.cells #[.bool d,.slice t B.length z,.int .i64 y] 52)) (.bool false) (.slice none 0 0) (.int .i64 0)
  simpa using this
 have B0:=aa Q;have X0:=aa H;have X1:=aa K;have X:=aa L
 clear Q H K L
 go_enter Tryz.func62,Tryz.ntmps62
 go_wp2_with fail
 refine aq (fun W=>Below w.heap.size w W∧aB W w.heap.size (.bool f) (.slice l A.length m) (.int .i64 x)∧aB W (w.heap.size+1) (.bool d) (.slice t B.length z) (.int .i64 y)∧aB W (w.heap.size+1+1) (.bool false) (.slice none 0 0) (.int .i64 0)) ⟨uH B0,uH X0,uH X1,uH X⟩ ?_
 clear B0 X0 X1 X
 rintro M ⟨b0,H,K,L⟩
 have s0:w.heap.size+1+1<M.heap.size:=L.lt
 have hK:∀w',Below (w.heap.size+1+1) M w'→Below (w.heap.size+1+1) M w'∧w'.cell? ⟨w.heap.size,0,none⟩=some (.bool f)∧w'.cell? ⟨w.heap.size,1,none⟩=some (.slice l A.length m)∧w'.cell? ⟨w.heap.size,2,none⟩=some (.int .i64 x)∧w'.cell? ⟨w.heap.size+1,0,none⟩=some (.bool d)∧w'.cell? ⟨w.heap.size+1,1,none⟩=some (.slice t B.length z)∧w'.cell? ⟨w.heap.size+1,2,none⟩=some (.int .i64 y):=fun w' h=>
  ⟨h,(H.below h (by omega)).c0,(H.below h (by omega)).c1,(H.below h (by omega)).c2,(K.below h (by omega)).c0,(K.below h (by omega)).c1,(K.below h (by omega)).c2⟩
 have HK:=aa hK;have BB:=aa b0;have X:=aa L
 clear hK b0 H K L
 go_region_held3(fun w'=>Below (w.heap.size+1+1) M w'∧w'.cell? ⟨w.heap.size,0,none⟩=some (.bool f)∧w'.cell? ⟨w.heap.size,1,none⟩=some (.slice l A.length m)∧w'.cell? ⟨w.heap.size,2,none⟩=some (.int .i64 x)∧w'.cell? ⟨w.heap.size+1,0,none⟩=some (.bool d)∧w'.cell? ⟨w.heap.size+1,1,none⟩=some (.slice t B.length z)∧w'.cell? ⟨w.heap.size+1,2,none⟩=some (.int .i64 y))
  (first|exact uH HK _ (Below.refl _ _).drew|exact uH HK _ (by assumption)|exact uH HK _ (aD ae (by omega) _ _ _))
  (first|(go_at_call 108;refine(uH CN _ (hB.below ((uH BB).trans ((Below.refl _ _).drew)))).mono ?_;rintro e w3 ⟨v,rfl,iv,D⟩;obtain⟨n1,a1,c1,L1,rfl,i1⟩:=iv.num;have U:Below (w.heap.size+1+1) M w3:=((Below.refl _ _).drew).trans (D.mono (by simp;omega));have X3:=aa ((uH X).drew.below D (by simp;omega));have IN:=aa iv;have s1:w.heap.size+1+1<w3.heap.size:=(by have:=D.size;simp at this;omega);have V:=aa ((uH BB).trans (U.mono (by omega)));clear D i1 iv)|(go_at_call 22;refine(uH Z _ _ (hA.below (uH V)) (uH IN)).mono ?_;rintro e w6 ⟨u,rfl,N,F⟩;obtain⟨n5,a5,c5,L5,rfl,i5⟩:=N.num;have ae:Below (w.heap.size+1+1) M w6:=U.trans (F.mono (by omega));have G:=(uH X3).below F (by omega);have y0:=G.c0;have y1:=G.c1;have y2:=G.c2;have f0:=G.free 0;have f1:=G.free 1;have f2:=G.free 2;have IU:=aa N;have X7:=aa G;have aj:=aa ((uH V).trans (F.mono (by omega)));clear F N i5 G))
 go_wp2
 refine bodyPost_ret (v:=.agg #[.bool n5,.slice a5 L5.length c5,.int .i64 ox]) (by simp[results,Tryz.results62,go_sem,y0,y1,y2]) rfl ⟨_,rfl,(uH IU).put3 (uH X7) _ _ _,aD (uH aj) (by omega) _ _ _⟩
end Go.Proofs.YtnnfjeieennffaaGreatDoor
namespace Go.Proofs.YtnnfjeieennffaaGreatDoor
open Go.RowKit
theorem Ah(s x l:Int):up (-s) x l= -up s x l:=by unfold up;rw[Int.neg_mul]
theorem Ef(s x l:Int):eM (-s) x l=eM s x l:=by unfold eM;rw[Ah,Int.natAbs_neg]
theorem nC(f x d y:Int):bK f x (-d) y=bK f x d y:=by
 unfold bK
 by_cases h:d=0
 ·subst h;rfl
 ·rw[if_neg h,if_neg (show¬-d=0 by omega)]
attribute [local go_sem ↓] Go.wp_at_zero Go.wp_at_succ
theorem Eg{d x f y:Int}(h:eM d x (bK d x f y)=0)(l:eM f y (bK d x f y)=0)(m:(dY d x f y).natAbs<dE):
  se d x f y=cR (dY d x f y) (bK d x f y)∧sf d x f y=dM (dY d x f y) (bK d x f y)∧si d x f y=dX (dY d x f y) (bK d x f y):=by
 have t:kq d x f y=true:=decide_eq_true ⟨h,l,m⟩
 unfold se sf si
 rw[t]
 exact⟨rfl,rfl,rfl⟩
end Go.Proofs.YtnnfjeieennffaaGreatDoor
