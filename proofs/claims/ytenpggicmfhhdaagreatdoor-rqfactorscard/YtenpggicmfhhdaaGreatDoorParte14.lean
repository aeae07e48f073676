/- Part 14 of the texts. -/
import Derived.Test.YtenpggicmfhhdaaGreatDoorParte13
set_option maxHeartbeats 4000000
namespace Go.Proofs.YtenpggicmfhhdaaGreatDoor
open Go.RowKit
attribute [local go_sem ↓] Go.wp_at_zero Go.wp_at_succ
def kv(n m:Nat)(x y:Int):Int:=if n=0 then y else if m=0 then x else min x y
theorem Eo{h l:Bool}{A B:List Nat}{x y:Int}(m:aw h A=true)(t:aw l B=true):kv A.length B.length x y=bL (ad h A) x (ad l B) y:=by
 unfold kv bL
 by_cases d:A.length=0
 ·rw[if_pos d,if_pos ((aL m).2 d)]
 ·rw[if_neg d,if_neg (fun e=>d ((aL m).1 e))]
  by_cases f:B.length=0
  ·rw[if_pos f,if_pos ((aL t).2 f)]
  ·rw[if_neg f,if_neg (fun e=>f ((aL t).1 e))]
theorem BJ(F G:Bool)(H I:Option Addr)(K L n m:Nat)(x y:Int)(w:World):
  Calls Tryz.prog 196 #[.agg #[.bool F,.slice H n K,.int .i64 x],.agg #[.bool G,.slice I m L,.int .i64 y]] w fun r M=>r=.returned (.int .i64 (kv n m x y))∧Below w.heap.size w M:=by
 have z:Below w.heap.size w ((w.alloc (.cells #[.bool F,.slice H n K,.int .i64 x] 110)).alloc (.cells #[.bool G,.slice I m L,.int .i64 y] 110)):=((Below.refl _ _).alloc (Nat.le_refl _) _).alloc (by simp) _
 have A:=aa z
 clear z
 by_cases h:n=0
 ·have d:kv n m x y=y:=by unfold kv;rw[if_pos h]
  rw[d]
  subst h
  clear d
  go_enter Tryz.func196,Tryz.ntmps196
  go_wp2
  go_ret
  exact⟨rfl,uH A⟩
 have N:((n:Int)==0)=false:=by rw[beq_eq_false_iff_ne];omega
 by_cases D:m=0
 ·have d:kv n m x y=x:=by unfold kv;rw[if_neg h,if_pos D]
  rw[d]
  subst D
  clear d h
  go_enter Tryz.func196,Tryz.ntmps196
  go_wp2
  go_ret
  exact⟨rfl,uH A⟩
 have O:((m:Int)==0)=false:=by rw[beq_eq_false_iff_ne];omega
 have t:=aa (show kv n m x y=min x y by unfold kv;rw[if_neg h,if_neg D])
 generalize kv n m x y=l at*
 clear h D
 rcases(show x<y∨x=y∨y<x by omega)with f|f|f
 ·have d:l=x:=by rw[uH t];omega
  subst d
  clear t
  go_enter Tryz.func196,Tryz.ntmps196
  go_wp2
  go_ret
  exact⟨rfl,uH A⟩
 ·have d:l=x:=by rw[uH t];omega
  subst f
  subst d
  clear t
  go_enter Tryz.func196,Tryz.ntmps196
  go_wp2
  go_ret
  exact⟨rfl,uH A⟩
 ·have d:l=y:=by rw[uH t];omega
  subst d
  clear t
  go_enter Tryz.func196,Tryz.ntmps196
  go_wp2
  go_ret
  exact⟨rfl,uH A⟩
theorem qL(n m:Nat)(x y:Int)(d:-16384≤x∧x≤16384)(f:-16384≤y∧y≤16384):-16384≤kv n m x y∧kv n m x y≤16384:=by
 unfold kv
 split
 ·omega
 ·split<;>omega
theorem oH(d:Bool)(m:Option Addr)(t:Nat)(A:List Nat)(x l:Int)(w:World)(hA:af w m t A)(G:aw d A=true)(h:A.length≠0→l≤x∧x-l≤16384)(hx:-16384≤x∧x≤16384)(hl:-16384≤l∧l≤16384):
  Calls Tryz.prog 198 #[.agg #[.bool d,.slice m A.length t,.int .i64 x],.int .i64 l] w fun r y=>∃v,r=.returned v∧ay 0 y v (up (ad d A) x l)∧Below w.heap.size w y:=by
 have la:=(aA G).1
 have L:=aa (show A.length=0→up (ad d A) x l=0∧d=false from fun f=>by
  refine⟨by rw[(aL G).2 f,fk],?_⟩
  cases d
  ·rfl
  ·exact absurd (List.length_eq_zero_iff.1 f) ((aA G).2.2 rfl))
 have M:=aa (fun y K (f:A.length≠0)=>show Calls Tryz.prog 207 #[.agg #[.bool d,.slice m A.length t],.int .i64 (x-l)] y fun e H=>∃v,e=.returned v∧ay 0 H v (up (ad d A) x l)∧Below y.heap.size y H by
  have:=pp d m t A (x-l) y K G (by have:=h f;omega)
  rwa[qD d A (x-l) (by have:=h f;omega)]at this)
 clear h G
 generalize up (ad d A) x l=z at*
 obtain⟨aj,am⟩:=hx
 obtain⟨av,ax⟩:=hl
 have I:Below w.heap.size w ((w.alloc (.cells #[.bool d,.slice m A.length t,.int .i64 x] 110)).alloc (.cells #[.bool false,.slice none 0 0] 108)):=((Below.refl _ _).alloc (Nat.le_refl _) _).alloc (by simp) _
 have T:aB ((w.alloc (.cells #[.bool d,.slice m A.length t,.int .i64 x] 110)).alloc (.cells #[.bool false,.slice none 0 0] 108)) w.heap.size (.bool d) (.slice m A.length t) (.int .i64 x):=(aB.new _ _ _ _).old _
 have D:aC ((w.alloc (.cells #[.bool d,.slice m A.length t,.int .i64 x] 110)).alloc (.cells #[.bool false,.slice none 0 0] 108)) (w.heap.size+1) (.bool false) (.slice none 0 0):=by
  have:=aC.new (w.alloc (.cells #[.bool d,.slice m A.length t,.int .i64 x] 110)) (.bool false) (.slice none 0 0)
  simpa using this
 have N:=aa I;have X0:=aa T;have X2:=aa D
 clear I T D
 by_cases f:A.length=0
 ·obtain⟨rfl,rfl⟩:=uH L f
  have O:A= []:=List.length_eq_zero_iff.1 f
  subst O
  clear L M f
  go_enter Tryz.func198,Tryz.ntmps198
  go_wp2
  refine bodyPost_ret (v:=.agg #[.bool false,.slice m 0 t]) (by simp[results,Tryz.results198,go_sem]) rfl ⟨_,rfl,ay.zero _ _ _ _,?_⟩
  exact((Below.refl w.heap.size w).alloc (Nat.le_refl _) _).alloc (by simp) _
 have ae:((A.length:Int)==0)=false:=by rw[beq_eq_false_iff_ne];omega
 have Q:=aa (fun y K=>uH M y K f)
 clear L M f
 go_enter Tryz.func198,Tryz.ntmps198
 go_wp2_with fail
 refine(uH Q _ (hA.below (uH N))).mono ?_
 rintro r w2 ⟨v,rfl,⟨X,Y,Z,L3,rfl,i3⟩,F⟩
 have D:=(uH X2).all F
 have U:=(uH N).trans (F.mono (uH N).size)
 have y0:=D.c0;have y1:=D.c1;have f0:=D.free 0;have f1:=D.free 1
 have X3:=aa D;have B2:=aa U;have V:=aa i3
 clear D U F i3
 go_wp2
 refine bodyPost_ret (v:=.agg #[.bool X,.slice Y L3.length Z]) (by simp[results,Tryz.results198,go_sem,y0,y1]) rfl ⟨_,rfl,⟨X,Y,Z,L3,rfl,(uH V).1.box (uH X3) _ _,(uH V).2⟩,bP (uH B2) (by omega) _ _⟩
theorem yc(f:Bool)(l:Option Addr)(m:Nat)(A:List Nat)(x:Int)(w:World)(hA:af w l m A)(la:A.length≤512):
  Calls Tryz.prog 188 #[.agg #[.bool f,.slice l A.length m,.int .i64 x]] w fun r d=>∃v,r=.returned v∧aH d v (-ad f A) x∧Below w.heap.size w d:=by
 have CN:=aa (fun d h=>lU f l m A d h (by omega))
 generalize-ad f A=z at*
 have H:Below w.heap.size w ((w.alloc (.cells #[.bool f,.slice l A.length m,.int .i64 x] 110)).alloc (.cells #[.bool false,.slice none 0 0,.int .i64 0] 110)):=((Below.refl _ _).alloc (Nat.le_refl _) _).alloc (by simp) _
 have y:aB ((w.alloc (.cells #[.bool f,.slice l A.length m,.int .i64 x] 110)).alloc (.cells #[.bool false,.slice none 0 0,.int .i64 0] 110)) w.heap.size (.bool f) (.slice l A.length m) (.int .i64 x):=(aB.new _ _ _ _).old _
 have G:aB ((w.alloc (.cells #[.bool f,.slice l A.length m,.int .i64 x] 110)).alloc (.cells #[.bool false,.slice none 0 0,.int .i64 0] 110)) (w.heap.size+1) (.bool false) (.slice none 0 0) (.int .i64 0):=by
  have:=aB.new (w.alloc (.cells #[.bool f,.slice l A.length m,.int .i64 x] 110)) (.bool false) (.slice none 0 0) (.int .i64 0)
  simpa using this
 have X:=aa H;have Y:=aa y;have Q:=aa G
 clear H y G
 go_enter Tryz.func188,Tryz.ntmps188
 go_wp2_with fail
 refine ap (fun W=>Below w.heap.size w W∧aB W w.heap.size (.bool f) (.slice l A.length m) (.int .i64 x)∧aB W (w.heap.size+1) (.bool false) (.slice none 0 0) (.int .i64 0)) ⟨uH X,uH Y,uH Q⟩ ?_
 clear X Y Q
 rintro K ⟨b0,y,G⟩
 have s0:w.heap.size+1<K.heap.size:=G.lt
 have Z:∀d,Below (w.heap.size+1) K d→Below (w.heap.size+1) K d∧d.cell? ⟨w.heap.size,0,none⟩=some (.bool f)∧d.cell? ⟨w.heap.size,1,none⟩=some (.slice l A.length m)∧d.cell? ⟨w.heap.size,2,none⟩=some (.int .i64 x):=fun d h=>
  ⟨h,(y.below h (by omega)).c0,(y.below h (by omega)).c1,(y.below h (by omega)).c2⟩
 have T:=aa Z;have BB:=aa b0;have Q:=aa G
 clear Z b0 y G
 go_region_held3(fun d=>Below (w.heap.size+1) K d∧d.cell? ⟨w.heap.size,0,none⟩=some (.bool f)∧d.cell? ⟨w.heap.size,1,none⟩=some (.slice l A.length m)∧d.cell? ⟨w.heap.size,2,none⟩=some (.int .i64 x))
  (first|exact uH T _ (Below.refl _ _).drew|exact uH T _ (by assumption)|exact uH T _ (aE I (by omega) _ _ _))
  (first|(go_at_call 121;refine(uH CN _ (hA.below ((uH BB).trans ((Below.refl _ _).drew)))).mono ?_;rintro e V ⟨v,rfl,⟨L,M,N,O,rfl,D⟩,F⟩;have I:Below (w.heap.size+1) K V:=((Below.refl _ _).drew).trans (F.mono (by simp;omega));have t:=((uH Q).drew.below F (by simp;omega));have IZ:=aa (show ay 0 V (.agg #[.bool L,.slice M O.length N]) z from⟨L,M,N,O,rfl,D.1,D.2.1,D.2.2.1,D.2.2.2.1,D.2.2.2.2.1,by have:=D.2.2.2.2.2;omega⟩);have y0:=t.c0;have y1:=t.c1;have y2:=t.c2;have f0:=t.free 0;have f1:=t.free 1;have f2:=t.free 2;have X5:=aa t;have U:=aa ((uH BB).trans (I.mono (by omega)));clear F D t))
 go_wp2
 have j2:aH V (.agg #[.bool L,.slice M O.length N,.int .i64 x]) z x:=⟨L,M,N,O,rfl,uH IZ⟩
 refine bodyPost_ret (v:=.agg #[.bool L,.slice M O.length N,.int .i64 x]) (by simp[results,Tryz.results188,go_sem,y0,y1,y2]) rfl ⟨_,rfl,j2.put3 (uH X5) _ _ _,aE (uH U) (by omega) _ _ _⟩
theorem sM{B f:Nat}{w:World}{v u:Value}{x y:Int}(h:ay B w v x)(l:ay f w u y)(m:x.natAbs<di)(t:y.natAbs<di):
  Calls Tryz.prog 197 #[v,u] w fun e d=>∃r,e=.returned r∧aG 513 w.heap.size d r (x+y)∧Below w.heap.size w d:=by
 obtain⟨G,H,I,A,rfl,K,U,L,V⟩:=h.right m
 obtain⟨M,N,O,C,rfl,Q,X,T,Y⟩:=l.right t
 have:=sw G M H N I O A C w K Q (by omega) (by omega)
 rw[L,T]at this
 exact this.mono fun e d ⟨r,z,D,F⟩=>⟨r,z,D.more (by omega),F⟩
theorem ye{s x l:Int}(h:d9 s x l=0):x-l≤16384:=by
 unfold d9 at h
 by_cases d:(up s x l).natAbs<di∧x-l≤16384
 ·exact d.2
 ·rw[if_neg d]at h;exact absurd h (by decide)
theorem yf(f m:Bool)(D F:Option Addr)(G H:Nat)(A B:List Nat)(x y:Int)(w:World)(hA:af w D G A)(hB:af w F H B)(ra:aw f A=true)(rb:aw m B=true)(hx:-16384≤x∧x≤16384)(hy:-16384≤y∧y≤16384)(e1:d9 (ad f A) x (bL (ad f A) x (ad m B) y)=0)(e2:d9 (ad m B) y (bL (ad f A) x (ad m B) y)=0):
  Calls Tryz.prog 187 #[.agg #[.bool f,.slice D A.length G,.int .i64 x],.agg #[.bool m,.slice F B.length H,.int .i64 y]] w fun r d=>∃v,r=.returned v∧aH d v (oM (dy (ad f A) x (ad m B) y)) (oE (dy (ad f A) x (ad m B) y) (bL (ad f A) x (ad m B) y))∧Below w.heap.size w d:=by
 have CL:=aa (fun d=>BJ f m D F G H A.length B.length x y d)
 have N:=qL A.length B.length x y hx hy
 rw[Eo ra rb]at CL N
 have g1:A.length≠0→bL (ad f A) x (ad m B) y≤x:=fun h=>by
  unfold bL
  rw[if_neg (fun e=>h ((aL ra).1 e))]
  split<;>omega
 have g2:B.length≠0→bL (ad f A) x (ad m B) y≤y:=fun h=>by
  unfold bL
  split
  ·omega
  ·rw[if_neg (fun e=>h ((aL rb).1 e))];omega
 obtain⟨z,hz⟩:∃z,dy (ad f A) x (ad m B) y=z:=⟨_,rfl⟩
 have X:z=up (ad f A) x (bL (ad f A) x (ad m B) y)+up (ad m B) y (bL (ad f A) x (ad m B) y):=by rw[←hz];rfl
 rw[hz]
 clear hz
 generalize bL (ad f A) x (ad m B) y=l at*
 have aI:=aa (fun d h=>oH f D G A x l d h ra (fun h0=>⟨g1 h0,ye e1⟩) hx N)
 have a0:=aa (fun d h=>oH m F H B y l d h rb (fun h0=>⟨g2 h0,ye e2⟩) hy N)
 have Y:=aa (fun d u v (V:ay 0 d u (up (ad f A) x l)) (iv:ay 0 d v (up (ad m B) y l))=>sM V iv (jR e1) (jR e2))
 rw[←X]at Y
 have CO:=aa (fun d u B' (V:aG 513 B' d u z)=>gG l V (by decide) (by omega))
 clear ra rb e1 e2 X g1 g2 hx hy
 generalize oE z l=ox at*
 generalize oM z=om at*
 generalize up (ad f A) x l=za at*
 generalize up (ad m B) y l=zb at*
 obtain⟨be,bi⟩:=N
 have Z:Below w.heap.size w (((w.alloc (.cells #[.bool f,.slice D A.length G,.int .i64 x] 110)).alloc (.cells #[.bool m,.slice F B.length H,.int .i64 y] 110)).alloc (.cells #[.bool false,.slice none 0 0,.int .i64 0] 110)):=
  (((Below.refl _ _).alloc (Nat.le_refl _) _).alloc (by simp) _).alloc (by simp;omega) _
 have L:aB (((w.alloc (.cells #[.bool f,.slice D A.length G,.int .i64 x] 110)).alloc (.cells #[.bool m,.slice F B.length H,.int .i64 y] 110)).alloc (.cells #[.bool false,.slice none 0 0,.int .i64 0] 110)) w.heap.size (.bool f) (.slice D A.length G) (.int .i64 x):=((aB.new _ _ _ _).old _).old _
 have M:aB (((w.alloc (.cells #[.bool f,.slice D A.length G,.int .i64 x] 110)).alloc (.cells #[.bool m,.slice F B.length H,.int .i64 y] 110)).alloc (.cells #[.bool false,.slice none 0 0,.int .i64 0] 110)) (w.heap.size+1) (.bool m) (.slice F B.length H) (.int .i64 y):=by
  have:=(aB.new (w.alloc (.cells #[.bool f,.slice D A.length G,.int .i64 x] 110)) (.bool m) (.slice F B.length H) (.int .i64 y)).old (.cells #[.bool false,.slice none 0 0,.int .i64 0] 110)
  simpa using this
 have O:aB (((w.alloc (.cells #[.bool f,.slice D A.length G,.int .i64 x] 110)).alloc (.cells #[.bool m,.slice F B.length H,.int .i64 y] 110)).alloc (.cells #[.bool false,.slice none 0 0,.int .i64 0] 110)) (w.heap.size+1+1) (.bool false) (.slice none 0 0) (.int .i64 0):=by
  have:=aB.new ((w.alloc (.cells #[.bool f,.slice D A.length G,.int .i64 x] 110)).alloc (.cells #[.bool m,.slice F B.length H,.int .i64 y] 110)) (.bool false) (.slice none 0 0) (.int .i64 0)
  simpa using this
 have B0:=aa Z;have X0:=aa L;have X1:=aa M;have X2:=aa O
 clear Z L M O
 go_enter Tryz.func187,Tryz.ntmps187
 go_wp2_with fail
 refine(uH CL _).mono ?_
 rintro r w1 ⟨rfl,t⟩
 have L:=(uH X0).all t;have M:=(uH X1).all t;have O:=(uH X2).all t
 have b1:=(uH B0).trans (t.mono (uH B0).size)
 have ae:=aa L;have aj:=aa M;have am:=aa O;have B1:=aa b1
 clear t L M O b1 X0 X1 X2 B0 CL
 go_wp2_with fail
 refine ap (fun W=>Below w.heap.size w W∧aB W w.heap.size (.bool f) (.slice D A.length G) (.int .i64 x)∧aB W (w.heap.size+1) (.bool m) (.slice F B.length H) (.int .i64 y)∧aB W (w.heap.size+1+1) (.bool false) (.slice none 0 0) (.int .i64 0)) ⟨uH B1,uH ae,uH aj,uH am⟩ ?_
 clear B1 ae aj am
 rintro U ⟨b0,L,M,O⟩
 have s0:w.heap.size+1+1<U.heap.size:=O.lt
 have hK:∀d,Below (w.heap.size+1+1) U d→Below (w.heap.size+1+1) U d∧d.cell? ⟨w.heap.size,0,none⟩=some (.bool f)∧d.cell? ⟨w.heap.size,1,none⟩=some (.slice D A.length G)∧d.cell? ⟨w.heap.size,2,none⟩=some (.int .i64 x)∧d.cell? ⟨w.heap.size+1,0,none⟩=some (.bool m)∧d.cell? ⟨w.heap.size+1,1,none⟩=some (.slice F B.length H)∧d.cell? ⟨w.heap.size+1,2,none⟩=some (.int .i64 y):=fun d h=>
  ⟨h,(L.below h (by omega)).c0,(L.below h (by omega)).c1,(L.below h (by omega)).c2,(M.below h (by omega)).c0,(M.below h (by omega)).c1,(M.below h (by omega)).c2⟩
 have HK:=aa hK;have BB:=aa b0;have X2:=aa O
 clear hK b0 L M O
 go_region_held3(fun d=>Below (w.heap.size+1+1) U d∧d.cell? ⟨w.heap.size,0,none⟩=some (.bool f)∧d.cell? ⟨w.heap.size,1,none⟩=some (.slice D A.length G)∧d.cell? ⟨w.heap.size,2,none⟩=some (.int .i64 x)∧d.cell? ⟨w.heap.size+1,0,none⟩=some (.bool m)∧d.cell? ⟨w.heap.size+1,1,none⟩=some (.slice F B.length H)∧d.cell? ⟨w.heap.size+1,2,none⟩=some (.int .i64 y))
  (first|exact uH HK _ (Below.refl _ _).drew|exact uH HK _ (by assumption)|exact uH HK _ (aE bb (by omega) _ _ _))
  (first|(go_at_call_of 198 (Value.agg #[.bool f,.slice D A.length G,.int .i64 x]);refine(uH aI _ (hA.below ((uH BB).trans ((Below.refl _ _).drew)))).mono ?_;rintro e w3 ⟨v,rfl,⟨n1,a1,c1,L1,rfl,i1⟩,t⟩;have av:Below (w.heap.size+1+1) U w3:=((Below.refl _ _).drew).trans (t.mono (by simp;omega));have X3:=aa ((uH X2).drew.below t (by simp;omega));have IA:=aa (show ay 0 w3 (.agg #[.bool n1,.slice a1 L1.length c1]) za from⟨n1,a1,c1,L1,rfl,i1⟩);have s1:w.heap.size+1+1<w3.heap.size:=(by have:=t.size;simp at this;omega);have ax:=aa ((uH BB).trans (av.mono (by omega)));clear t i1)|(go_at_call_of 198 (Value.agg #[.bool m,.slice F B.length H,.int .i64 y]);refine(uH a0 _ (hB.below (uH ax))).mono ?_;rintro e w4 ⟨v,rfl,⟨n2,a2,c2,L2,rfl,i2⟩,I⟩;have a4:Below (w.heap.size+1+1) U w4:=av.trans (I.mono (by omega));have X4:=aa ((uH X3).below I (by omega));have a6:=aa ((uH IA).below I);have IB:=aa (show ay 0 w4 (.agg #[.bool n2,.slice a2 L2.length c2]) zb from⟨n2,a2,c2,L2,rfl,i2⟩);have s2:w.heap.size+1+1<w4.heap.size:=(by have:=I.size;omega);have a7:=aa ((uH ax).trans (I.mono (by omega)));clear I i2)|(go_at_call 197;refine(uH Y _ _ _ (uH a6) (uH IB)).mono ?_;rintro e w5 ⟨v,rfl,⟨n3,a3,c3,L3,rfl,i3⟩,K⟩;have a9:Below (w.heap.size+1+1) U w5:=a4.trans (K.mono (by omega));have X5:=aa ((uH X4).below K (by omega));have IZ:=aa (show aG 513 w4.heap.size w5 (.agg #[.bool n3,.slice a3 L3.length c3]) z from⟨n3,a3,c3,L3,rfl,i3⟩);have s3:w.heap.size+1+1<w5.heap.size:=(by have:=K.size;omega);have ba:=aa ((uH a7).trans (K.mono (by omega)));clear K i3)|(go_at_call 122;refine(uH CO _ _ _ (uH IZ)).mono ?_;rintro e w6 ⟨u,rfl,V,Q⟩;obtain⟨n5,a5,c5,L5,rfl,i5⟩:=V.num;have bb:Below (w.heap.size+1+1) U w6:=a9.trans (Q.mono (by omega));have T:=(uH X5).below Q (by omega);have y0:=T.c0;have y1:=T.c1;have y2:=T.c2;have f0:=T.free 0;have f1:=T.free 1;have f2:=T.free 2;have IU:=aa V;have X7:=aa T;have bc:=aa ((uH ba).trans (Q.mono (by omega)));clear Q V i5 T))
 go_wp2
 refine bodyPost_ret (v:=.agg #[.bool n5,.slice a5 L5.length c5,.int .i64 ox]) (by simp[results,Tryz.results187,go_sem,y0,y1,y2]) rfl ⟨_,rfl,(uH IU).put3 (uH X7) _ _ _,aE (uH bc) (by omega) _ _ _⟩
theorem yg(l f:Bool)(m z:Option Addr)(t D:Nat)(A B:List Nat)(x y:Int)(w:World)(hA:af w m t A)(hB:af w z D B)(ra:aw l A=true)(X:aw f B=true)(hx:-16384≤x∧x≤16384)(hy:-16384≤y∧y≤16384)(e1:d9 (ad l A) x (bL (ad l A) x (-ad f B) y)=0)(e2:d9 (-ad f B) y (bL (ad l A) x (-ad f B) y)=0):
  Calls Tryz.prog 173 #[.agg #[.bool l,.slice m A.length t,.int .i64 x],.agg #[.bool f,.slice z B.length D,.int .i64 y]] w fun r d=>∃v,r=.returned v∧aH d v (oM (dy (ad l A) x (-ad f B) y)) (oE (dy (ad l A) x (-ad f B) y) (bL (ad l A) x (-ad f B) y))∧Below w.heap.size w d:=by
 have lb:=(aA X).1
 have tb:=ma hB X
 have CN:=aa (fun d h=>yc f z D B y d h lb)
 have Y:=aa (fun d u (h:af d m t A) (N:aH d u (-ad f B) y)=>show Calls Tryz.prog 187 #[.agg #[.bool l,.slice m A.length t,.int .i64 x],u] d fun r O=>∃v,r=.returned v∧aH O v (oM (dy (ad l A) x (-ad f B) y)) (oE (dy (ad l A) x (-ad f B) y) (bL (ad l A) x (-ad f B) y))∧Below d.heap.size d O by
  obtain⟨n1,a1,c1,L1,rfl,q1,q2,q3,q4,q5⟩:=N.right (by rw[Int.natAbs_neg];exact tb)
  have:=yf l n1 m a1 t c1 A L1 x y d h q1 ra q2 hx hy (by rw[q3];exact e1) (by rw[q3];exact e2)
  rwa[q3]at this)
 clear ra X hx hy e1 e2 tb
 generalize oE (dy (ad l A) x (-ad f B) y) (bL (ad l A) x (-ad f B) y)=ox at*
 generalize oM (dy (ad l A) x (-ad f B) y)=om at*
 generalize-ad f B=sb at*
 have Q:Below w.heap.size w (((w.alloc (.cells #[.bool l,.slice m A.length t,.int .i64 x] 110)).alloc (.cells #[.bool f,.slice z B.length D,.int .i64 y] 110)).alloc (.cells #[.bool false,.slice none 0 0,.int .i64 0] 110)):=
  (((Below.refl _ _).alloc (Nat.le_refl _) _).alloc (by simp) _).alloc (by simp;omega) _
 have I:aB (((w.alloc (.cells #[.bool l,.slice m A.length t,.int .i64 x] 110)).alloc (.cells #[.bool f,.slice z B.length D,.int .i64 y] 110)).alloc (.cells #[.bool false,.slice none 0 0,.int .i64 0] 110)) w.heap.size (.bool l) (.slice m A.length t) (.int .i64 x):=((aB.new _ _ _ _).old _).old _
 have K:aB (((w.alloc (.cells #[.bool l,.slice m A.length t,.int .i64 x] 110)).alloc (.cells #[.bool f,.slice z B.length D,.int .i64 y] 110)).alloc (.cells #[.bool false,.slice none 0 0,.int .i64 0] 110)) (w.heap.size+1) (.bool f) (.slice z B.length D) (.int .i64 y):=by
  have:=(aB.new (w.alloc (.cells #[.bool l,.slice m A.length t,.int .i64 x] 110)) (.bool f) (.slice z B.length D) (.int .i64 y)).old (.cells #[.bool false,.slice none 0 0,.int .i64 0] 110)
  simpa using this
 have L:aB (((w.alloc (.cells #[.bool l,.slice m A.length t,.int .i64 x] 110)).alloc (.cells #[.bool f,.slice z B.length D,.int .i64 y] 110)).alloc (.cells #[.bool false,.slice none 0 0,.int .i64 0] 110)) (w.heap.size+1+1) (.bool false) (.slice none 0 0) (.int .i64 0):=by
  have:=aB.new ((w.alloc (.cells #[.bool l,.slice m A.length t,.int .i64 x] 110)).alloc (.cells #[.bool f,.slice z B.length D,.int .i64 y] 110)) (.bool false) (.slice none 0 0) (.int .i64 0)
  simpa using this
 have B0:=aa Q;have X0:=aa I;have X1:=aa K;have V:=aa L
 clear Q I K L
 go_enter Tryz.func173,Tryz.ntmps173
 go_wp2_with fail
 refine ap (fun W=>Below w.heap.size w W∧aB W w.heap.size (.bool l) (.slice m A.length t) (.int .i64 x)∧aB W (w.heap.size+1) (.bool f) (.slice z B.length D) (.int .i64 y)∧aB W (w.heap.size+1+1) (.bool false) (.slice none 0 0) (.int .i64 0)) ⟨uH B0,uH X0,uH X1,uH V⟩ ?_
 clear B0 X0 X1 V
 rintro M ⟨b0,I,K,L⟩
 have s0:w.heap.size+1+1<M.heap.size:=L.lt
 have hK:∀d,Below (w.heap.size+1+1) M d→Below (w.heap.size+1+1) M d∧d.cell? ⟨w.heap.size,0,none⟩=some (.bool l)∧d.cell? ⟨w.heap.size,1,none⟩=some (.slice m A.length t)∧d.cell? ⟨w.heap.size,2,none⟩=some (.int .i64 x)∧d.cell? ⟨w.heap.size+1,0,none⟩=some (.bool f)∧d.cell? ⟨w.heap.size+1,1,none⟩=some (.slice z B.length D)∧d.cell? ⟨w.heap.size+1,2,none⟩=some (.int .i64 y):=fun d h=>
  ⟨h,(I.below h (by omega)).c0,(I.below h (by omega)).c1,(I.below h (by omega)).c2,(K.below h (by omega)).c0,(K.below h (by omega)).c1,(K.below h (by omega)).c2⟩
 have Z:=aa hK;have BB:=aa b0;have V:=aa L
 clear hK b0 I K L
 go_region_held3(fun d=>Below (w.heap.size+1+1) M d∧d.cell? ⟨w.heap.size,0,none⟩=some (.bool l)∧d.cell? ⟨w.heap.size,1,none⟩=some (.slice m A.length t)∧d.cell? ⟨w.heap.size,2,none⟩=some (.int .i64 x)∧d.cell? ⟨w.heap.size+1,0,none⟩=some (.bool f)∧d.cell? ⟨w.heap.size+1,1,none⟩=some (.slice z B.length D)∧d.cell? ⟨w.heap.size+1,2,none⟩=some (.int .i64 y))
  (first|exact uH Z _ (Below.refl _ _).drew|exact uH Z _ (by assumption)|exact uH Z _ (aE ae (by omega) _ _ _))
  (first|(go_at_call 188;refine(uH CN _ (hB.below ((uH BB).trans ((Below.refl _ _).drew)))).mono ?_;rintro e w3 ⟨v,rfl,iv,F⟩;obtain⟨n1,a1,c1,L1,rfl,i1⟩:=iv.num;have T:Below (w.heap.size+1+1) M w3:=((Below.refl _ _).drew).trans (F.mono (by simp;omega));have X3:=aa ((uH V).drew.below F (by simp;omega));have IN:=aa iv;have s1:w.heap.size+1+1<w3.heap.size:=(by have:=F.size;simp at this;omega);have U:=aa ((uH BB).trans (T.mono (by omega)));clear F i1 iv)|(go_at_call 187;refine(uH Y _ _ (hA.below (uH U)) (uH IN)).mono ?_;rintro e w6 ⟨u,rfl,N,G⟩;obtain⟨n5,a5,c5,L5,rfl,i5⟩:=N.num;have ae:Below (w.heap.size+1+1) M w6:=T.trans (G.mono (by omega));have H:=(uH X3).below G (by omega);have y0:=H.c0;have y1:=H.c1;have y2:=H.c2;have f0:=H.free 0;have f1:=H.free 1;have f2:=H.free 2;have IU:=aa N;have X7:=aa H;have aj:=aa ((uH U).trans (G.mono (by omega)));clear G N i5 H))
 go_wp2
 refine bodyPost_ret (v:=.agg #[.bool n5,.slice a5 L5.length c5,.int .i64 ox]) (by simp[results,Tryz.results173,go_sem,y0,y1,y2]) rfl ⟨_,rfl,(uH IU).put3 (uH X7) _ _ _,aE (uH aj) (by omega) _ _ _⟩
end Go.Proofs.YtenpggicmfhhdaaGreatDoor
namespace Go.Proofs.YtenpggicmfhhdaaGreatDoor
open Go.RowKit
theorem yh(s x l:Int):up (-s) x l= -up s x l:=by unfold up;rw[Int.neg_mul]
theorem BK(s x l:Int):d9 (-s) x l=d9 s x l:=by unfold d9;rw[yh,Int.natAbs_neg]
theorem mf(f x d y:Int):bL f x (-d) y=bL f x d y:=by
 unfold bL
 by_cases h:d=0
 ·subst h;rfl
 ·rw[if_neg h,if_neg (show¬-d=0 by omega)]
attribute [local go_sem ↓] Go.wp_at_zero Go.wp_at_succ
theorem BL{d x f y:Int}(h:d9 d x (bL d x f y)=0)(l:d9 f y (bL d x f y)=0)(m:(dy d x f y).natAbs<di):
  qG d x f y=cI (dy d x f y) (bL d x f y)∧qH d x f y=dM (dy d x f y) (bL d x f y)∧qI d x f y=dX (dy d x f y) (bL d x f y):=by
 have t:jQ d x f y=true:=decide_eq_true ⟨h,l,m⟩
 unfold qG qH qI
 rw[t]
 exact⟨rfl,rfl,rfl⟩
end Go.Proofs.YtenpggicmfhhdaaGreatDoor
