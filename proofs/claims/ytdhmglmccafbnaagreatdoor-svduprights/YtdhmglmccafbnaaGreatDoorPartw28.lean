/- Part 28 of the texts. -/
import Derived.Test.YtdhmglmccafbnaaGreatDoorPartw27
set_option maxHeartbeats 8000000
set_option maxRecDepth 20000
namespace Go.Proofs.YtdhmglmccafbnaaGreatDoor
open Go.RowKit
attribute [local go_sem ↓] Go.wp_at_zero Go.wp_at_succ
theorem vZ(L:List Nat){k:Nat}(d:k<L.length):(aL L)[k]?.getD 0=((L.getD k 0:Nat):Int):=by
 unfold aL
 rw[List.getElem?_map,List.getElem?_eq_getElem d,List.getD_eq_getElem?_getD,List.getElem?_eq_getElem d]
 rfl
theorem dr.ints{d:Nat}{w:World}{v:Value}{L:List Nat}(h:dr d w v L)(u:∀x∈L,x≤1000000):∃l f,v=.slice l L.length f∧fo w l f (aL L):=by
 have:=Bs (I:=aL L) (n:=L.length) h (fun x z=>by
  obtain⟨y,D,rfl⟩:=List.mem_map.1 z
  have:=u y D
  omega)
 rw[av]at this
 exact this
theorem dr.below{d:Nat}{w w':World}{v:Value}{L:List Nat}(h:dr d w v L)(f:Below w.heap.size w w'):dr d w' v L:=
 h.kept (w':=w') (row:=none) ⟨f.os,f.tape,f.output,f.size,fun k l _=>f.block k l⟩ (by first|(cases hv:Value.ownBlock _<;>simp)|simp)
theorem dr.slice{d:Nat}{w:World}{v:Value}{L:List Nat}(h:dr d w v L)(D:0<L.length):∃g f,v=.slice (some ⟨g,0,none⟩) L.length f∧d≤g:=by
 rcases h.2 with⟨_,e⟩|⟨g,f,l,u,z,_⟩
 ·omega
 ·exact⟨g,f,u,z⟩
theorem tl(r c u d pc:Nat)(H po:Option Addr)(S L:List Nat)(w:World)(h:Mx w H u r c S)(bo:d≤6)(aI:∀y,y<d→L.getD y 0<c)(hP:∀k,k<d→∃pb K,po=some ⟨pb,K,none⟩∧w.cell? ⟨pb,K+k,none⟩=some (.int .i64 (L.getD k 0:Nat))):
  Calls Tryz.prog 97 #[.agg #[.int .i64 r,.int .i64 c,.slice H S.length u],.slice po d pc] w fun e w'=>∃v,e=.returned v∧bK 0 w' r d (cG r d (fun x y=>bJ c S x (L.getD y 0))) v∧Below w.heap.size w w':=by
 have HH:=aa h
 have a6:=aa aI;have a7:=aa hP
 clear aI hP
 have bq:=h.2.2.1;have bt:=h.2.2.2
 have K1:=aa (fun w'=>jM r d w' (by omega) (by omega))
 have b0:=ac w (.cells #[.int .i64 r,.int .i64 c,.slice H S.length u] 25)
 have b1:=ac (w.alloc (.cells #[.int .i64 r,.int .i64 c,.slice H S.length u] 25)) (.cells #[.int .i64 0,.int .i64 0,.slice none 0 0] 25)
 have s0:=ah w (.cells #[.int .i64 r,.int .i64 c,.slice H S.length u] 25)
 have s1:=ah (w.alloc (.cells #[.int .i64 r,.int .i64 c,.slice H S.length u] 25)) (.cells #[.int .i64 0,.int .i64 0,.slice none 0 0] 25)
 have X0:=aw.new w (.int .i64 r) (.int .i64 c) (.slice H S.length u)
 have X1:=aw.new (w.alloc (.cells #[.int .i64 r,.int .i64 c,.slice H S.length u] 25)) (.int .i64 0) (.int .i64 0) (.slice none 0 0)
 have Z:=aa (X0.all b1)
 rw[s0]at X1
 have ae:=aa X1
 have M:=aa (b0.trans (b1.mono b0.size))
 have N:=aa (s1.trans (by rw[s0]))
 have HL:=aa h.2.1
 obtain⟨l,hl⟩:∃l,S.length=l:=⟨_,rfl⟩
 rw[hl]at Z ae M N
 rw[hl]
 have a9:=aa hl
 obtain⟨f,hf⟩:∃f:Nat→Nat→Nat,f=(fun x y=>bJ c S x (L.getD y 0)):=⟨_,rfl⟩
 rw[←hf]
 have HF:=aa hf
 clear b0 b1 s0 s1 X0 X1 h hl hf
 go_enter Tryz.func97,Tryz.ntmps97
 go_wp2_with fail
 refine(uH K1 _).mono ?_
 rintro e w1 ⟨v,rfl,⟨mo,mc,rfl,nw,qs⟩,J⟩
 have ba:=ac w1 (.cells #[.int .i64 r,.int .i64 d,.slice mo (List.replicate (r*d) 0).length mc] 25)
 have BB:=(uH M).trans (J.mono (uH M).size)
 have L0:=aa (show jl w (w1.alloc (.cells #[.int .i64 r,.int .i64 d,.slice mo (cG r d (pa f 0 0)).length mc] 25)) w1.heap.size (w.heap.size+1) r d mo mc (cG r d (pa f 0 0))from by
  rw[Bg]
  exact⟨BB.trans (ba.mono BB.size),aw.new w1 _ _ _,((uH ae).all J).all ba,qs.below ba,by have:=J.size;rw[uH N]at this;omega,BB.size⟩)
 have A0:=aa (show aw (w1.alloc (.cells #[.int .i64 r,.int .i64 d,.slice mo (cG r d (pa f 0 0)).length mc] 25)) w.heap.size (.int .i64 r) (.int .i64 c) (.slice H l u)from by
  rw[Bg]
  exact((uH Z).all J).all ba)
 have NE:=aa (show w.heap.size≠w1.heap.size from by have:=J.size;rw[uH N]at this;omega)
 rw[←Bg r d f]
 clear K1 J ba BB nw qs M Z ae N
 have U:=(uH A0).c0;have V:=(uH A0).c1;have X:=(uH A0).c2
 go_wp2_with fail
 generalize w1.heap.size=g at*
 go_loopw[6] (fun i wr=>∃(j:Nat) (D:Option Addr) (F:Nat),j≤r∧i=.int .i64 j∧Hid (jl w wr g (w.heap.size+1) r d D F (cG r d (pa f j 0)))∧Hid (aw wr w.heap.size (.int .i64 r) (.int .i64 c) (.slice H l u))) (fun i _=>r-(intOf i).toNat)
 case atStart=>exact⟨0,mo,mc,Nat.zero_le _,rfl,L0,A0⟩
 case round=>
  clear L0 A0 U V X
  obtain⟨j,D,F,hj,rfl,z,G⟩:=hrel
  by_cases bb:j<r
  ·have bv:(j:Int)<(r:Int):=by omega
   have U:=(uH G).c0;have V:=(uH G).c1;have X:=(uH G).c2
   go_wp2_with fail
   go_loopw[7] (fun i wr=>∃(k:Nat) (D:Option Addr) (F:Nat),k≤d∧i=.int .i64 k∧Hid (jl w wr g (w.heap.size+1) r d D F (cG r d (pa f j k)))∧Hid (aw wr w.heap.size (.int .i64 r) (.int .i64 c) (.slice H l u))) (fun i _=>d-(intOf i).toNat)
   case atStart=>exact⟨0,D,F,Nat.zero_le _,rfl,z,G⟩
   case round=>
    clear z G U V X D F
    obtain⟨k,D,F,hk,rfl,z,G⟩:=hrel
    have U:=(uH G).c0;have V:=(uH G).c1;have X:=(uH G).c2
    by_cases am:k<d
    ·have bw:(k:Int)<(d:Int):=by omega
     have y0:=(uH z).box.c0;have y1:=(uH z).box.c1;have y2:=(uH z).box.c2
     have C1:=aa (fun w' (m:Mx w' H u r c S)=>kB r c u j (L.getD k 0) H S w' m (by omega) (uH a6 k am))
     have C2:=aa (fun w' D F (m:Mx w' D F r d (cG r d (pa f j k)))=>gZ r d F j k (f j k) D (cG r d (pa f j k)) w' m (by omega) (by omega) (by rw[uH HF];exact(uH HH).el_lt _ _))
     rw[Bh r d f bb am]at C2
     rw[uH a9,show bJ c S j (L.getD k 0)=f j k from by rw[uH HF]]at C1
     have HM:=aa ((uH HH).below (uH z).bel)
     have HP:=aa (show(cG r d (pa f j k)).length=r*d from bH _ _ _)
     generalize f j k=x at*
     generalize cG r d (pa f j k)=T at*
     generalize a5:cG r d (pa f j (k+1))=T2 at*
     have be:=aa a5
     clear a5
     obtain⟨pb,K,bn,a1⟩:=uH a7 k am
     have cp:=ak a1 (uH z).bel
     subst bn
     clear a1
     generalize L.getD k 0=lk at*
     go_wp2_with fail
     go_region_with (first|(go_at_call 59;refine(uH C1 _ (by exact uH HM)).mono ?_;rintro e w4 ⟨rfl,a2⟩;have O:Below wr.heap.size wr w4:=((Below.refl wr.heap.size wr).drew).trans a2;clear a2 U V X y0 y1 y2;replace cp:=ak cp O;have L4:=(uH z).all O;have A4:=(uH G).all O;have U:=A4.c0;have V:=A4.c1;have X:=A4.c2;have y0:=L4.box.c0;have y1:=L4.box.c1;have y2:=L4.box.c2;have ap:=aa L4;have a0:=aa A4;clear O L4 A4)|(go_at_call 54;refine(uH C2 _ _ _ ⟨(uH ap).bits,uH HP,by omega,by omega⟩).mono ?_;rintro e w5 ⟨v,rfl,⟨a3,a4,rfl,_,q5⟩,ax⟩;clear U V X y0 y1 y2;have Y:=(uH ap).all ax;have A5:=(uH a0).all ax;have y0:=Y.box.c0;have y1:=Y.box.c1;have y2:=Y.box.c2;have f0:=Y.box.free 0;have f1:=Y.box.free 1;have f2:=Y.box.free 2;have L6:=aa (Y.put q5);have A6:=aa (((A5.other (p:=⟨g,0,none⟩) (uH NE) (.int .i64 r)).other (p:=⟨g,1,none⟩) (uH NE) (.int .i64 d)).other (p:=⟨g,2,none⟩) (uH NE) (.slice a3 T2.length a4));clear ax Y A5 q5 ap a0)|fail "NO ARM")
     all_goals
      clear z G HM C1 C2 y0 y1 y2 f0 f1 f2
      go_wp2_with fail
      go_round
      case rel=>exact⟨k+1,a3,a4,by omega,by go_num,by rw[uH be];exact L6,A6⟩
      case measure=>simp[intOf];omega
    ·have bg:d=k:=by omega
     subst bg
     have bi:=aa (show jl w _ g (w.heap.size+1) r d D F (cG r d (pa f (j+1) 0))from by rw[←Ey r d f j];exact uH z)
     clear z
     go_wp2_with fail
     go_round
     case rel=>exact⟨j+1,D,F,by omega,by go_num,bi,G⟩
     case measure=>simp[intOf];omega
  ·have bm:r=j:=by omega
   subst bm
   rw[Ez]at z
   have U:=(uH G).c0;have V:=(uH G).c1;have X:=(uH G).c2
   have y0:=(uH z).box.c0;have y1:=(uH z).box.c1;have y2:=(uH z).box.c2
   have r0:=(uH z).res.c0;have r1:=(uH z).res.c1;have r2:=(uH z).res.c2
   have f0:=(uH z).res.free 0;have f1:=(uH z).res.free 1;have f2:=(uH z).res.free 2
   have XP:=(uH z).res.put (.int .i64 r) (.int .i64 d) (.slice D (cG r d f).length F)
   have z0:=XP.c0;have z1:=XP.c1;have z2:=XP.c2
   have Q:=aa (af.putM (uH z).bits (uH z).res (.int .i64 r) (.int .i64 d) (.slice D (cG r d f).length F))
   have BP:=aa (aq (uH z).bel (b:=w.heap.size+1) (by omega) (.int .i64 r) (.int .i64 d) (.slice D (cG r d f).length F))
   clear XP z
   go_wp2
   exact bodyPost_ret (v:=.agg #[.int .i64 r,.int .i64 d,.slice D (cG r d f).length F]) (by simp[results,Tryz.results97,go_sem,z0,z1,z2]) rfl ⟨_,rfl,bK.any (uH Q),uH BP⟩
theorem qY(r c d l:Nat)(u z:Option Addr)(S L:List Nat)(w:World)(h:Mx w u d r c S)(G:fo w z l (aL L))(H:L.length≤6)(J:∀y,y<L.length→L.getD y 0<c):
  Calls Tryz.prog 97 #[.agg #[.int .i64 r,.int .i64 c,.slice u S.length d],.slice z L.length l] w fun e w'=>∃v,e=.returned v∧bK 0 w' r L.length (eP r c S L) v∧Below w.heap.size w w':=by
 refine tl r c d L.length l u z S L w h H J (fun k F=>?_)
 obtain⟨b,D,e,_,f⟩:=G.ne (by rw[av];omega)
 have:=f k (by rw[av];exact F)
 rw[vZ L F]at this
 exact⟨b,D,e,this⟩
def bB(w:World)(g:Nat)(L:List Nat):Prop:=w.heap[g]? =some (.cells ((aL L).map pe).toArray 3 (0,0))
theorem bB.cell{w:World}{g:Nat}{L:List Nat}(h:bB w g L)(j:Nat)(d:j<L.length):w.cell? ⟨g,j,none⟩=some (.int .i64 ((L[j]?.getD 0:Nat):Int)):=by
 rw[cell_of_row w g j _ _ _ h]
 simp[pe,aL,d]
theorem bB.free{w:World}{g:Nat}{L:List Nat}(h:bB w g L)(j:Nat):w.frozen? ⟨g,j,none⟩=false:=frozen_of_row w g j _ _ h
theorem bB.set{w:World}{g:Nat}{L:List Nat}(h:bB w g L)(j x:Nat):bB (w.setCell ⟨g,j,none⟩ (.int .i64 (x:Int))) g (L.set j x):=by
 unfold bB
 rw[heap_setCell_same w g j _ _ _ h]
 simp[pe,aL,List.map_set]
theorem bB.lt{w:World}{g:Nat}{L:List Nat}(h:bB w g L):g<w.heap.size:=(Array.getElem?_eq_some_iff.1 h).1
theorem bB.below{w w':World}{g:Nat}{L:List Nat}(h:bB w g L){B:Nat}(d:Below B w w')(f:g<B):bB w' g L:=by
 unfold bB;rw[d.block g f];exact h
theorem bB.all{w w':World}{g:Nat}{L:List Nat}(h:bB w g L)(d:Below w.heap.size w w'):bB w' g L:=h.below d h.lt
theorem bB.other{w:World}{g:Nat}{L:List Nat}(h:bB w g L){p:Addr}(d:g≠p.block)(u:Value):bB (w.setCell p u) g L:=(Below.heap_setCell w p u g d).trans h
theorem bB.three{w:World}{b g:Nat}{L:List Nat}(h:bB w b L)(d:b≠g)(u l f:Value):bB (((w.setCell ⟨g,0,none⟩ u).setCell ⟨g,1,none⟩ l).setCell ⟨g,2,none⟩ f) b L:=
 ((h.other (p:=⟨g,0,none⟩) d _).other (p:=⟨g,1,none⟩) d _).other (p:=⟨g,2,none⟩) d _
theorem tm(n:Nat):madeCells #[Value.int .i64 0] n=((aL (List.replicate n 0)).map pe).toArray:=by
 apply Array.ext'
 refine List.ext_getElem (by simp[madeCells,aL]) fun i d f=>?_
 simp[madeCells,Nat.mod_one,aL,pe]
theorem bB.made(w:World)(n:Nat):bB (w.alloc (.cells (madeCells #[.int .i64 0] n) 3)) w.heap.size (List.replicate n 0):=by
 unfold bB
 rw[heap_alloc_new w _,tm]
theorem bB.ints{w:World}{g:Nat}{L:List Nat}(h:bB w g L)(f:∀x∈L,x≤1000000):fo w (some ⟨g,0,none⟩) L.length (aL L):=by
 refine⟨by rw[av];exact Nat.le_refl _,fun x l=>?_,.inr ⟨g,0,rfl,h.lt,fun i d=>?_⟩⟩
 ·obtain⟨y,u,rfl⟩:=List.mem_map.1 l
  have:=f y u
  omega
 ·rw[av]at d
  rw[Nat.zero_add,h.cell i d,vZ L d,List.getD_eq_getElem?_getD]
theorem BH(a b:Nat):cO a b= -1∨cO a b=0∨cO a b=1:=by
 unfold cO bc
 repeat' split
 all_goals simp
theorem ym(a b:Nat)(w:World)(f:a<18446744073709551616)(h:b<18446744073709551616):
  Calls Tryz.prog 98 #[.int .u64 a,.int .u64 b] w fun r w'=>r=.returned (.bool (decide (cO a b<0)))∧Below w.heap.size w w':=by
 have C:=fun w'=>jG a b w' f h
 have l:cB a b=false→cO a b=0:=by
  unfold cB cO
  split
  ·intro _;rfl
  ·intro e;cases e
 cases hc:cB a b
 ·have d:=l hc
  rw[d,hc]at C
  rw[d]
  exact mH a b 0 false false false w (.inl ⟨rfl,rfl,rfl,rfl⟩) C
 ·rw[hc]at C
  rcases BH a b with e|e|e
  ·rw[e]at C⊢
   exact mH a b (-1) true true false w (.inr (.inl ⟨rfl,rfl,rfl,rfl⟩)) C
  ·rw[e]at C⊢
   exact mH a b 0 true false true w (.inr (.inr (.inl ⟨rfl,rfl,rfl,rfl⟩))) C
  ·rw[e]at C⊢
   exact mH a b 1 true false false w (.inr (.inr (.inr ⟨rfl,rfl,rfl,rfl⟩))) C
theorem cC{w:World}{l:Option Addr}{u:Nat}{f:List Nat}(h:af w l u (aL f)){k:Nat}(z:k<f.length):∃b d,l=some ⟨b,d,none⟩∧b<w.heap.size∧w.cell? ⟨b,d+k,none⟩=some (.int .u64 (f.getD k 0:Nat)):=by
 obtain⟨b,d,D,F,G⟩:=h.ne (by rw[av];omega)
 refine⟨b,d,D,F,?_⟩
 rw[G k (by rw[av];exact z),eI]
def uZ(w W:World)(r c n cap:Nat)(ao:Option Addr):Prop:=Below w.heap.size w W∧aw W w.heap.size (.int .i64 r) (.int .i64 c) (.slice ao n cap)∧aw W (w.heap.size+1) (.int .i64 0) (.int .i64 0) (.slice none 0 0)
theorem uZ.all{w W l:World}{r c n d:Nat}{u:Option Addr}(h:uZ w W r c n d u)(f:Below W.heap.size W l):uZ w l r c n d u:=⟨h.1.trans (f.mono h.1.size),h.2.1.all f,h.2.2.all f⟩
theorem Hh(r c:Int)(l:Option Addr)(n d:Nat)(i k:Int)(C s:Nat)(er:Int)(w:World)(z:er=1∨er=7)
  (F:∀w',Calls Tryz.prog 231 #[.agg #[.int .i64 r,.int .i64 c,.slice l n d],.int .i64 r,.int .i64 i,.int .i64 k] w' fun e D=>e=.returned (.int .i64 er)∧Below w'.heap.size w' D):
  Calls Tryz.prog 199 #[.agg #[.int .i64 r,.int .i64 c,.slice l n d],.int .i64 i,.int .i64 k,.int .u64 C,.int .u64 s] w fun e w'=>∃v,e=.returned (.tuple #[v,.int .i64 er])∧bK w.heap.size w' 0 0 [] v∧Below w.heap.size w w':=by
 have K:=aa (F ((w.alloc (.cells #[.int .i64 r,.int .i64 c,.slice l n d] 25)).alloc (.cells #[.int .i64 0,.int .i64 0,.slice none 0 0] 25)))
 simp only[ah]at K
 have G:=aa (gC w (.int .i64 r) (.int .i64 c) (.slice l n d) (.int .i64 0) (.int .i64 0) (.slice none 0 0))
 clear F
 rcases z with rfl|rfl
 all_goals
  go_enter Tryz.func199,Tryz.ntmps199
  go_wp2_with fail
  refine Calls.mono (uH K) ?_
  rintro e N ⟨rfl,h⟩
  obtain⟨H,M,f⟩:=uH G N h
  clear K G h M
  have O:=f.free 0;have Q:=f.free 1;have U:=f.free 2
  have V:=f.c0;have X:=f.c1;have Y:=f.c2
  have u:=f.put (.int .i64 0) (.int .i64 0) (.slice none 0 0)
  have J:=u.c0;have z1:=u.c1;have z2:=u.c2
  have L:=aa (aq H (b:=w.heap.size+1) (by omega) (.int .i64 0) (.int .i64 0) (.slice none 0 0))
  clear u f H
  go_wp2
  refine bodyPost_ret (v:=.tuple #[.agg #[.int .i64 0,.int .i64 0,.slice none 0 0],_]) (by simp[results,Tryz.results199,go_sem,J,z1,z2]) rfl ⟨_,rfl,bK.zero _ _,uH L⟩
theorem yn(r c n f i k C s u0 u1 u2 N O U:Nat)(u:Option Addr)(S:List Nat)(w:World)
  (V:∀w',Calls Tryz.prog 231 #[.agg #[.int .i64 r,.int .i64 c,.slice u n f],.int .i64 r,.int .i64 i,.int .i64 k] w' fun e h=>e=.returned (.int .i64 0)∧Below w'.heap.size w' h)
  (X:∀w',Calls Tryz.prog 233 #[.agg #[.int .i64 r,.int .i64 c,.slice u n f],.int .i64 i] w' fun e h=>e=.returned (.agg #[.int .i64 u0,.int .i64 u1,.int .i64 u2])∧Below w'.heap.size w' h)
  (Y:∀w',Calls Tryz.prog 233 #[.agg #[.int .i64 r,.int .i64 c,.slice u n f],.int .i64 k] w' fun e h=>e=.returned (.agg #[.int .i64 N,.int .i64 O,.int .i64 U])∧Below w'.heap.size w' h)
  (Z:∀w',Below w.heap.size w w'→Calls Tryz.prog 232 #[.agg #[.int .i64 r,.int .i64 c,.slice u n f],.agg #[.int .i64 u0,.int .i64 u1,.int .i64 u2],.agg #[.int .i64 N,.int .i64 O,.int .i64 U],.int .u64 C,.int .u64 s] w' fun e h=>∃g,e=.returned (.agg #[.int .i64 r,.int .i64 c,.slice (some ⟨g,0,none⟩) n n])∧w'.heap.size≤g∧bp h g S∧Below w'.heap.size w' h):
  Calls Tryz.prog 199 #[.agg #[.int .i64 r,.int .i64 c,.slice u n f],.int .i64 i,.int .i64 k,.int .u64 C,.int .u64 s] w fun e w'=>∃g,e=.returned (.tuple #[.agg #[.int .i64 r,.int .i64 c,.slice (some ⟨g,0,none⟩) n n],.int .i64 0])∧w.heap.size≤g∧bp w' g S∧Below w.heap.size w w':=by
 have K:=aa (V ((w.alloc (.cells #[.int .i64 r,.int .i64 c,.slice u n f] 25)).alloc (.cells #[.int .i64 0,.int .i64 0,.slice none 0 0] 25)))
 simp only[ah]at K
 have KB:=aa (gC w (.int .i64 r) (.int .i64 c) (.slice u n f) (.int .i64 0) (.int .i64 0) (.slice none 0 0))
 have K2:=aa X;have K3:=aa Y;have K4:=aa Z
 clear V X Y Z
 go_enter Tryz.func199,Tryz.ntmps199
 go_wp2_with fail
 refine Calls.mono (uH K) ?_
 rintro e w1 ⟨rfl,J⟩
 obtain⟨hB,H,hX⟩:=uH KB w1 J
 clear K KB J
 have l:=aa (show uZ w w1 r c n f u from⟨hB,H,hX⟩)
 have D:=H.c0;have F:=H.c1;have G:=H.c2
 clear hB H hX
 go_wp2_with fail
 clear D F G
 refine aj (fun W=>uZ w W r c n f u) (uH l) ?_
 clear l
 rintro W0 st
 have l:=aa (st.all ((Below.refl W0.heap.size W0).drew))
 clear st
 have D:=(uH l).2.1.c0;have F:=(uH l).2.1.c1;have G:=(uH l).2.1.c2
 go_region_with (first
  |(go_at_call 233;refine(uH K2 _).mono ?_;rintro e w4 ⟨rfl,z⟩;clear D F G;have d:=(uH l).all z;have D:=d.2.1.c0;have F:=d.2.1.c1;have G:=d.2.1.c2;replace l:=aa d;clear d z K2)
  |(go_at_call 233;refine(uH K3 _).mono ?_;rintro e w5 ⟨rfl,z⟩;clear D F G;have d:=(uH l).all z;have D:=d.2.1.c0;have F:=d.2.1.c1;have G:=d.2.1.c2;replace l:=aa d;clear d z K3)
  |(go_at_call 232;refine(uH K4 _ (uH l).1).mono ?_;rintro e w6 ⟨g,rfl,hg,M,z⟩;clear D F G;have d:=(uH l).all z;have f0:=d.2.2.free 0;have f1:=d.2.2.free 1;have f2:=d.2.2.free 2;have s0:=d.2.2.c0;have s1:=d.2.2.c1;have s2:=d.2.2.c2;have HG:=aa (Nat.le_trans (uH l).1.size hg);have L:=d.2.2.put (.int .i64 r) (.int .i64 c) (.slice (some ⟨g,0,none⟩) n n);have z0:=L.c0;have z1:=L.c1;have z2:=L.c2;have Q:=aa (M.three (tk M d.2.2) (.int .i64 r) (.int .i64 c) (.slice (some ⟨g,0,none⟩) n n));have BP:=aa (aq d.1 (b:=w.heap.size+1) (by omega) (.int .i64 r) (.int .i64 c) (.slice (some ⟨g,0,none⟩) n n));clear d z hg M L l K4)
  |fail "NO ARM")
 all_goals
  go_wp2
  exact bodyPost_ret (v:=.tuple #[.agg #[.int .i64 r,.int .i64 c,.slice (some ⟨g,0,none⟩) n n],.int .i64 0]) (by simp[results,Tryz.results199,go_sem,z0,z1,z2]) rfl ⟨g,rfl,uH HG,uH Q,uH BP⟩
theorem yp(r c n f i k C s u0 u1 u2 N O U:Nat)(u:Option Addr)(S:List Nat)(w:World)
  (V:∀w',Calls Tryz.prog 231 #[.agg #[.int .i64 r,.int .i64 c,.slice u n f],.int .i64 c,.int .i64 i,.int .i64 k] w' fun e h=>e=.returned (.int .i64 0)∧Below w'.heap.size w' h)
  (X:∀w',Calls Tryz.prog 234 #[.agg #[.int .i64 r,.int .i64 c,.slice u n f],.int .i64 i] w' fun e h=>e=.returned (.agg #[.int .i64 u0,.int .i64 u1,.int .i64 u2])∧Below w'.heap.size w' h)
  (Y:∀w',Calls Tryz.prog 234 #[.agg #[.int .i64 r,.int .i64 c,.slice u n f],.int .i64 k] w' fun e h=>e=.returned (.agg #[.int .i64 N,.int .i64 O,.int .i64 U])∧Below w'.heap.size w' h)
  (Z:∀w',Below w.heap.size w w'→Calls Tryz.prog 232 #[.agg #[.int .i64 r,.int .i64 c,.slice u n f],.agg #[.int .i64 u0,.int .i64 u1,.int .i64 u2],.agg #[.int .i64 N,.int .i64 O,.int .i64 U],.int .u64 C,.int .u64 s] w' fun e h=>∃g,e=.returned (.agg #[.int .i64 r,.int .i64 c,.slice (some ⟨g,0,none⟩) n n])∧w'.heap.size≤g∧bp h g S∧Below w'.heap.size w' h):
  Calls Tryz.prog 200 #[.agg #[.int .i64 r,.int .i64 c,.slice u n f],.int .i64 i,.int .i64 k,.int .u64 C,.int .u64 s] w fun e w'=>∃g,e=.returned (.tuple #[.agg #[.int .i64 r,.int .i64 c,.slice (some ⟨g,0,none⟩) n n],.int .i64 0])∧w.heap.size≤g∧bp w' g S∧Below w.heap.size w w':=by
 have K:=aa (V ((w.alloc (.cells #[.int .i64 r,.int .i64 c,.slice u n f] 25)).alloc (.cells #[.int .i64 0,.int .i64 0,.slice none 0 0] 25)))
 simp only[ah]at K
 have KB:=aa (gC w (.int .i64 r) (.int .i64 c) (.slice u n f) (.int .i64 0) (.int .i64 0) (.slice none 0 0))
 have K2:=aa X;have K3:=aa Y;have K4:=aa Z
 clear V X Y Z
 go_enter Tryz.func200,Tryz.ntmps200
 go_wp2_with fail
 refine Calls.mono (uH K) ?_
 rintro e w1 ⟨rfl,J⟩
 obtain⟨hB,H,hX⟩:=uH KB w1 J
 clear K KB J
 have l:=aa (show uZ w w1 r c n f u from⟨hB,H,hX⟩)
 have D:=H.c0;have F:=H.c1;have G:=H.c2
 clear hB H hX
 go_wp2_with fail
 clear D F G
 refine aj (fun W=>uZ w W r c n f u) (uH l) ?_
 clear l
 rintro W0 st
 have l:=aa (st.all ((Below.refl W0.heap.size W0).drew))
 clear st
 have D:=(uH l).2.1.c0;have F:=(uH l).2.1.c1;have G:=(uH l).2.1.c2
 go_region_with (first
  |(go_at_call 234;refine(uH K2 _).mono ?_;rintro e w4 ⟨rfl,z⟩;clear D F G;have d:=(uH l).all z;have D:=d.2.1.c0;have F:=d.2.1.c1;have G:=d.2.1.c2;replace l:=aa d;clear d z K2)
  |(go_at_call 234;refine(uH K3 _).mono ?_;rintro e w5 ⟨rfl,z⟩;clear D F G;have d:=(uH l).all z;have D:=d.2.1.c0;have F:=d.2.1.c1;have G:=d.2.1.c2;replace l:=aa d;clear d z K3)
  |(go_at_call 232;refine(uH K4 _ (uH l).1).mono ?_;rintro e w6 ⟨g,rfl,hg,M,z⟩;clear D F G;have d:=(uH l).all z;have f0:=d.2.2.free 0;have f1:=d.2.2.free 1;have f2:=d.2.2.free 2;have s0:=d.2.2.c0;have s1:=d.2.2.c1;have s2:=d.2.2.c2;have HG:=aa (Nat.le_trans (uH l).1.size hg);have L:=d.2.2.put (.int .i64 r) (.int .i64 c) (.slice (some ⟨g,0,none⟩) n n);have z0:=L.c0;have z1:=L.c1;have z2:=L.c2;have Q:=aa (M.three (tk M d.2.2) (.int .i64 r) (.int .i64 c) (.slice (some ⟨g,0,none⟩) n n));have BP:=aa (aq d.1 (b:=w.heap.size+1) (by omega) (.int .i64 r) (.int .i64 c) (.slice (some ⟨g,0,none⟩) n n));clear d z hg M L l K4)
  |fail "NO ARM")
 all_goals
  go_wp2
  exact bodyPost_ret (v:=.tuple #[.agg #[.int .i64 r,.int .i64 c,.slice (some ⟨g,0,none⟩) n n],.int .i64 0]) (by simp[results,Tryz.results200,go_sem,z0,z1,z2]) rfl ⟨g,rfl,uH HG,uH Q,uH BP⟩
end Go.Proofs.YtdhmglmccafbnaaGreatDoor
namespace Go.Proofs.YtdhmglmccafbnaaGreatDoor
open Go.RowKit
theorem BI{l i k:Nat}(f:i<l)(h:k<l)(d:i≠k):
  ((i:Int)<0∧(0:Int)=7)∨(0≤(i:Int)∧(l:Int)≤i∧(0:Int)=7)∨(0≤(i:Int)∧(i:Int)<l∧(k:Int)<0∧(0:Int)=7)∨(0≤(i:Int)∧(i:Int)<l∧0≤(k:Int)∧(l:Int)≤k∧(0:Int)=7)∨(0≤(i:Int)∧(i:Int)<l∧0≤(k:Int)∧(k:Int)<l∧(i:Int)=k∧(0:Int)=7)∨(0≤(i:Int)∧(i:Int)<l∧0≤(k:Int)∧(k:Int)<l∧¬(i:Int)=k∧(0:Int)=0):=by
 omega
theorem wg(c:Nat)(S:List Nat)(i k:Nat):S[i*c+k]?.getD 0=bJ c S i k:=by
 unfold bJ
 rw[List.getD_eq_getElem?_getD]
theorem Hi(r c d i k C s:Nat)(u:Option Addr)(S:List Nat)(w:World)(h:Mx w u d r c S)(F:i<r)(G:k<r)(z:i≠k)(M:C<18446744073709551616)(N:s<18446744073709551616)(O:bT w):
  Calls Tryz.prog 199 #[.agg #[.int .i64 r,.int .i64 c,.slice u S.length d],.int .i64 i,.int .i64 k,.int .u64 C,.int .u64 s] w fun e w'=>∃g,e=.returned (.tuple #[.agg #[.int .i64 r,.int .i64 c,.slice (some ⟨g,0,none⟩) S.length S.length],.int .i64 0])∧w.heap.size≤g∧bp w' g (tW r c S i k C s)∧Below w.heap.size w w':=by
 have J:=h.small
 have V:=h.2.2.1
 have K:=h.2.2.2
 have Q:i*c≤36:=Nat.mul_le_mul (show i≤6 by omega) K
 have bk:k*c≤36:=Nat.mul_le_mul (show k≤6 by omega) K
 refine yn r c S.length d i k C s (i*c) 1 c (k*c) 1 c u (tW r c S i k C s) w
  (fun w'=>ou r c u S.length d r i k 0 w' (by omega) (vW h) (BI F G z))
  (fun w'=>(p8 r c S.length d i (i*c) u w' (bu i c) Q).mono (by rintro e f ⟨rfl,D⟩;exact⟨rfl,D⟩))
  (fun w'=>(p8 r c S.length d k (k*c) u w' (bu k c) bk).mono (by rintro e f ⟨rfl,D⟩;exact⟨rfl,D⟩))
  (fun w' D=>?_)
 have U:=h.below D
 rw[←vX]
 refine ju r c S.length d (i*c) 1 c (k*c) 1 c C s u (fun j=>pg r c S i k C s j) (fun j=>i*c+j) (fun j=>k*c+j) (fun j=>bJ c S i j) (fun j=>bJ c S k j) (fun j=>aV (mV C (bJ c S i j)) (mV s (bJ c S k j))) (fun j=>aV (mV C (bJ c S k j)) (fN (mV s (bJ c S i j)))) w' J K (by show af w' u d (aL (pg r c S i k C s 0));rw[Fm r c S i k C s h.2.1];exact U.1) (fun j=>by rw[qU,h.2.1]) (fun j l=>?_) (fun f j l=>?_) (fun f j l=>?_) (fun f j H l=>qa _ _ C s f (h.el_lt _ _) (h.el_lt _ _) M N ((O.all D).all H))
 ·have L:i*c+j<S.length:=by rw[h.2.1];exact bW F l
  have p2:k*c+j<S.length:=by rw[h.2.1];exact bW G l
  refine⟨L,p2,fun e=>z (Nat.eq_of_mul_eq_mul_right (show 0<c by omega) (by have X:i*c+j=k*c+j:=e;omega)),?_,?_,vY r c S F G z l⟩
  ·show(pg r c S i k C s j)[i*c+j]?.getD 0=_
   rw[wg]
   unfold pg
   rw[og r c _ F l,if_neg (Nat.lt_irrefl j)]
  ·show(pg r c S i k C s j)[k*c+j]?.getD 0=_
   rw[wg]
   unfold pg
   rw[og r c _ G l,if_neg (Nat.lt_irrefl j)]
 ·have L:i*c+j<S.length:=by rw[h.2.1];exact bW F l
  exact jj (i*c) 1 c j j (i*c+j) f (by simp) (by simp) (by omega)
 ·have p2:k*c+j<S.length:=by rw[h.2.1];exact bW G l
  exact jj (k*c) 1 c j j (k*c+j) f (by simp) (by simp) (by omega)
def rx(r c:Nat)(S:List Nat)(i k C s j:Nat):List Nat:=cG r c (fun p q=>if p<j then(if q=i then aV (mV C (bJ c S p i)) (mV s (bJ c S p k))else if q=k then aV (mV C (bJ c S p k)) (fN (mV s (bJ c S p i)))else bJ c S p q)else bJ c S p q)
theorem wh(r c:Nat)(S:List Nat)(i k C s j:Nat):(rx r c S i k C s j).length=r*c:=bH _ _ _
theorem Ir(r c:Nat)(S:List Nat)(i k C s:Nat)(h:S.length=r*c):rx r c S i k C s 0=S:=by
 unfold rx
 rw[←qR r c S h]
 refine bh (fun p q _ _=>?_)
 rw[qR r c S h,if_neg (by omega)]
 rfl
theorem wi(r c:Nat)(S:List Nat){i k:Nat}(C s:Nat)(l:i<c)(u:k<c):rx r c S i k C s r=fu r c S i k C s:=by
 unfold rx fu
 rw[show ru c r (tW c r (ru r c S) i k C s)=cG r c (fun p q=>bJ r (tW c r (ru r c S) i k C s) q p)from rfl]
 refine bh (fun p q d h=>?_)
 rw[if_pos d,Io c r (ru r c S) i k C s h d]
 have f:∀{a},a<c→bJ r (ru r c S) a p=bJ c S p a:=fun{a} z=>og c r (fun k i=>bJ c S i k) z d
 rw[f l,f u,f h]
theorem EV(r c:Nat)(S:List Nat){i k C s j:Nat}(z:i<c)(D:k<c)(f:i≠k)(l:j<r):
  ((rx r c S i k C s j).set (j*c+i) (aV (mV C (bJ c S j i)) (mV s (bJ c S j k)))).set (j*c+k) (aV (mV C (bJ c S j k)) (fN (mV s (bJ c S j i))))=rx r c S i k C s (j+1):=by
 unfold rx
 rw[ip r c _ _ l z,ip r c _ _ l D]
 refine bh (fun q p _ _=>?_)
 by_cases u:q<j
 ·rw[if_neg (fun e=>by omega),if_neg (fun e=>by omega),if_pos u,if_pos (show q<j+1 by omega)]
 ·by_cases h:q=j
  ·subst h
   by_cases p2:p=k
   ·rw[if_pos ⟨rfl,p2⟩,if_pos (show q<q+1 by omega),if_neg (fun e=>f (e.symm.trans p2)),if_pos p2]
   ·rw[if_neg (fun e=>p2 e.2)]
    by_cases d:p=i
    ·rw[if_pos ⟨rfl,d⟩,if_pos (show q<q+1 by omega),if_pos d]
    ·rw[if_neg (fun e=>d e.2),if_neg (show¬q<q by omega),if_pos (show q<q+1 by omega),if_neg d,if_neg p2]
  ·rw[if_neg (fun e=>h e.1),if_neg (fun e=>h e.1),if_neg u,if_neg (show¬q<j+1 by omega)]
theorem GV{w:World}{l:Option Addr}{d r c:Nat}{S:List Nat}(h:Mx w l d r c S)(i k C s j:Nat):∀x∈rx r c S i k C s j,x<18446744073709551616:=by
 intro x f
 unfold rx cG at f
 obtain⟨p,_,rfl⟩:=List.mem_map.1 f
 show(if _ then(if _ then _ else if _ then _ else _)else _)<_
 split
 ·split
  ·exact dR _ _ (bM _ _) (bM _ _)
  ·split
   ·exact dR _ _ (bM _ _) (gH _ (bM _ _))
   ·exact h.el_lt _ _
 ·exact h.el_lt _ _
theorem yq(r c d i k C s:Nat)(u:Option Addr)(S:List Nat)(w:World)(h:Mx w u d r c S)(D:i<c)(F:k<c)(z:i≠k)(L:C<18446744073709551616)(M:s<18446744073709551616)(N:bT w):
  Calls Tryz.prog 200 #[.agg #[.int .i64 r,.int .i64 c,.slice u S.length d],.int .i64 i,.int .i64 k,.int .u64 C,.int .u64 s] w fun e w'=>∃g,e=.returned (.tuple #[.agg #[.int .i64 r,.int .i64 c,.slice (some ⟨g,0,none⟩) S.length S.length],.int .i64 0])∧w.heap.size≤g∧bp w' g (fu r c S i k C s)∧Below w.heap.size w w':=by
 have H:=h.small
 have O:=h.2.2.1
 have U:=h.2.2.2
 rw[←wi r c S C s D F]
 refine yp r c S.length d i k C s i c r k c r u (rx r c S i k C s r) w
  (fun w'=>ou r c u S.length d c i k 0 w' (by omega) (vW h) (BI D F z))
  (fun w'=>p9 r c S.length d i u w')
  (fun w'=>p9 r c S.length d k u w')
  (fun w' J=>?_)
 have Q:=h.below J
 refine ju r c S.length d i c r k c r C s u (fun j=>rx r c S i k C s j) (fun j=>j*c+i) (fun j=>j*c+k) (fun j=>bJ c S j i) (fun j=>bJ c S j k) (fun j=>aV (mV C (bJ c S j i)) (mV s (bJ c S j k))) (fun j=>aV (mV C (bJ c S j k)) (fN (mV s (bJ c S j i)))) w' H O (by show af w' u d (aL (rx r c S i k C s 0));rw[Ir r c S i k C s h.2.1];exact Q.1) (fun j=>by rw[wh,h.2.1]) (fun j l=>?_) (fun f j l=>?_) (fun f j l=>?_) (fun f j G l=>qa _ _ C s f (h.el_lt _ _) (h.el_lt _ _) L M ((N.all J).all G))
 ·have K:j*c+i<S.length:=by rw[h.2.1];exact bW l D
  have p2:j*c+k<S.length:=by rw[h.2.1];exact bW l F
  refine⟨K,p2,fun e=>z (by have V:j*c+i=j*c+k:=e;omega),?_,?_,EV r c S D F z l⟩
  ·show(rx r c S i k C s j)[j*c+i]?.getD 0=_
   rw[wg]
   unfold rx
   rw[og r c _ l D,if_neg (Nat.lt_irrefl j)]
  ·show(rx r c S i k C s j)[j*c+k]?.getD 0=_
   rw[wg]
   unfold rx
   rw[og r c _ l F,if_neg (Nat.lt_irrefl j)]
 ·have K:j*c+i<S.length:=by rw[h.2.1];exact bW l D
  exact jj i c r j (j*c) (j*c+i) f (bu j c) (by simp;omega) (by omega)
 ·have p2:j*c+k<S.length:=by rw[h.2.1];exact bW l F
  exact jj k c r j (j*c) (j*c+k) f (bu j c) (by simp;omega) (by omega)
theorem tn(r c d i k C s:Nat)(f:Option Addr)(S:List Nat)(w:World)(h:Mx w f d r c S)(u:i<c)(z:k<c)(l:i≠k)(G:C<18446744073709551616)(H:s<18446744073709551616)(J:bT w):
  Calls Tryz.prog 200 #[.agg #[.int .i64 r,.int .i64 c,.slice f S.length d],.int .i64 i,.int .i64 k,.int .u64 C,.int .u64 s] w fun e w'=>∃v,e=.returned (.tuple #[v,.int .i64 0])∧bK w.heap.size w' r c (fu r c S i k C s) v∧Below w.heap.size w w':=by
 refine(yq r c d i k C s f S w h u z l G H J).mono ?_
 rintro e w' ⟨g,rfl,K,F,L⟩
 rw[←wi r c S C s u z]at F⊢
 have q:=F.bits (GV h i k C s r)
 have D:(rx r c S i k C s r).length=S.length:=by rw[wh,h.2.1]
 exact⟨_,rfl,⟨_,S.length,by rw[D],.inr ⟨g,0,rfl,K⟩,by rw[D]at q;exact q⟩,L⟩
attribute [local go_sem ↓] Go.wp_at_zero Go.wp_at_succ
theorem iq(a b:Nat)(w:World)(d:a<18446744073709551616)(f:b<18446744073709551616):
  Calls Tryz.prog 98 #[.int .u64 a,.int .u64 b] w fun r w'=>r=.returned (.bool (eJ a b))∧Below w.heap.size w w':=ym a b w d f
def gl(r c:Nat)(S:List Nat)(k:Nat):List Nat:=GM c S 0 k r 1
def jO(r c:Nat)(S:List Nat)(k:Nat):Nat:=nX (aL (gl r c S k))
def yr(r c:Nat)(S:List Nat)(p q:Nat):Nat:=eM (aL (gl r c S p)) (aL (gl r c S q)) r
def GW(xx yy g:Nat):Nat:=dV (aV yy (fN xx)) (aV g g)
def GX(z:Nat):Nat:=dV 4607182418800017408 (aV (fR z) (sV (aV 4607182418800017408 (mV z z))))
def GY(z:Nat):Nat:=if fS z=true then fN (GX z)else GX z
def mI(t:Nat):Nat:=dV 4607182418800017408 (sV (aV 4607182418800017408 (mV t t)))
def tq(t:Nat):Nat:=mV (mI t) t
def jm(r c:Nat)(S:List Nat)(p q:Nat):Nat:=GY (GW (yr r c S p p) (yr r c S q q) (yr r c S p q))
structure Sd where
 W:List Nat
 V:List Nat
 still:Bool
def Ck(r c low:Nat)(S:List Nat)(p q:Nat):Bool:=!(eJ low (jO r c S p))||(!(eJ low (jO r c S q))|| !(eJ (xV (mV (jO r c S p) (jO r c S q)) (-44)) (fR (yr r c S p q))))
def Is(r c p q:Nat)(s:Sd):Sd:=⟨fu r c s.W p q (mI (jm r c s.W p q)) (fN (tq (jm r c s.W p q))),fu c c s.V p q (mI (jm r c s.W p q)) (fN (tq (jm r c s.W p q))),false⟩
def tX(r c low p q:Nat)(s:Sd):Sd:=if Ck r c low s.W p q=true then s else Is r c p q s
def mJ(r c low p:Nat)(s:Sd):Nat→Sd
 |0=>s
 |t+1=>tX r c low p (p+1+t) (mJ r c low p s t)
def mb(r c low:Nat)(s:Sd):Nat→Sd
 |0=>s
 |p+1=>mJ r c low p (mb r c low s p) (c-1-p)
def GZ(r c low:Nat)(s:Sd):Sd:=mb r c low ⟨s.W,s.V,true⟩ c
def gu(r c low:Nat)(s:Sd):Nat→Sd
 |0=>s
 |n+1=>if(gu r c low s n).still=true then gu r c low s n else GZ r c low (gu r c low s n)
def iX(S:List Nat)(k:Int):List Nat:=(List.range S.length).map (fun i=>xV (S.getD i 0) k)
def bR(r c:Nat)(S:List Nat):List Nat:=(List.range c).map (jO r c S)
def mK(I:List Nat):Nat→Nat
 |0=>0
 |k+1=>if mK I k<k then mK I k else if eJ (xV (I.getD 0 0) (-40)) (I.getD k 0)=true then k+1 else k
theorem bC(r c:Nat)(S:List Nat)(k:Nat):(gl r c S k).length=r:=by unfold gl GM;rw[bH,Nat.mul_one]
theorem G3{S:List Nat}(h:∀x∈S,x<18446744073709551616)(r c k:Nat):∀x∈gl r c S k,x<18446744073709551616:=by
 intro x d
 unfold gl GM cG at d
 obtain⟨p,_,rfl⟩:=List.mem_map.1 d
 show S.getD ((0+p/1)*c+(k+p%1)) 0<18446744073709551616
 rw[List.getD_eq_getElem?_getD]
 cases e:S[(0+p/1)*c+(k+p%1)]? with
 |none=>decide
 |some v=>exact h v (List.mem_of_getElem? e)
theorem ir(S:List Nat)(k:Int):(iX S k).length=S.length:=by simp[iX]
theorem fh(r c:Nat)(S:List Nat):(bR r c S).length=c:=by simp[bR]
theorem u4(r c:Nat)(S:List Nat)(p q:Nat):yr r c S p q<18446744073709551616:=ei _ _ _
theorem lj(r c:Nat)(S:List Nat)(k:Nat):jO r c S k<18446744073709551616:=uT _
theorem BJ(z:Nat):GX z<18446744073709551616:=su _ _
theorem qZ(t:Nat):mI t<18446744073709551616:=su _ _
theorem BK(t:Nat):tq t<18446744073709551616:=bM _ _
theorem lm(r c f k:Nat)(z:Option Addr)(S:List Nat)(w:World)(h:Mx w z f r c S)(Y:k<c):
  Calls Tryz.prog 213 #[.agg #[.int .i64 r,.int .i64 c,.slice z S.length f],.int .i64 k] w fun e w'=>∃l d,e=.returned (.slice l r d)∧jL w.heap.size l (aL (gl r c S k))∧af w' l d (aL (gl r c S k))∧Below w.heap.size w w':=by
 have G:=ac w (.cells #[.int .i64 r,.int .i64 c,.slice z S.length f] 25)
 have K:=Bq r c f 0 k r 1 z S _ (h.below G) (by omega) (by omega)
 rw[show((0:Nat):Int)=0 from rfl,show((1:Nat):Int)=1 from rfl]at K
 simp only[ah]at K
 have K:=aa K
 have F:=aa (aw.new w (.int .i64 r) (.int .i64 c) (.slice z S.length f))
 have H:=aa G
 have O:(gl r c S k).length=r:=bC r c S k
 change Hid (Calls _ _ _ _ fun e w'=>∃v,e=.returned (.tuple #[v,.int .i64 0])∧bK (w.heap.size+1) w' r 1 (gl r c S k) v∧Below (w.heap.size+1) _ w')at K
 generalize gl r c S k=T at*
 have Q:=(uH F).c0;have U:=(uH F).c1;have V:=(uH F).c2
 clear G h
 go_enter Tryz.func213,Tryz.ntmps213
 go_wp2_with fail
 clear Q U V
 refine Calls.mono (uH K) ?_
 rintro e L ⟨v,rfl,X,N⟩
 obtain⟨l,d,rfl,D,M⟩:=X
 rw[O]at*
 have J:=ac L (.cells #[.int .i64 r,.int .i64 1,.slice l r d] 25)
 have z2:=(aw.new L (.int .i64 r) (.int .i64 1) (.slice l r d)).c2
 have u:Below w.heap.size w L:=(uH H).trans (N.mono (by have:=(uH H).size;simp at this⊢))
 have R:=aa (show jL w.heap.size l (aL T)∧af _ l d (aL T)∧Below w.heap.size w _ from⟨D.least (Nat.le_succ _),M.below J,u.trans (J.mono u.size)⟩)
 clear K H F N u D M J
 go_wp2_with fail
 exact bodyPost_ret (v:=.slice l r d) (by simp[results,Tryz.results213,go_sem]) rfl ⟨l,d,rfl,uH R⟩
theorem BL(h l:Option Addr)(n m c d o:Nat)(u:Int)(w:World)
  (C:Calls Tryz.prog 191 #[.slice h n c,.slice l m d] w fun e w'=>e=.returned (.tuple #[.int .u64 (o:Nat),.int .i64 u])∧Below w.heap.size w w'):
  Calls Tryz.prog 240 #[.slice h n c,.slice l m d] w fun e w'=>e=.returned (.int .u64 (o:Nat))∧Below w.heap.size w w':=by
 have K:=aa C
 clear C
 go_enter Tryz.func240,Tryz.ntmps240
 go_wp2_with fail
 refine Calls.mono (uH K) ?_
 rintro e z ⟨rfl,f⟩
 clear K
 go_wp2
 go_ret
 exact⟨rfl,f⟩
theorem yt(f:Option Addr)(n c o:Nat)(h:Int)(w:World)
  (C:Calls Tryz.prog 239 #[.slice f n c] w fun e w'=>e=.returned (.tuple #[.int .u64 (o:Nat),.int .i64 h])∧Below w.heap.size w w'):
  Calls Tryz.prog 209 #[.slice f n c] w fun e w'=>e=.returned (.int .u64 (o:Nat))∧Below w.heap.size w w':=by
 have K:=aa C
 clear C
 go_enter Tryz.func209,Tryz.ntmps209
 go_wp2_with fail
 refine Calls.mono (uH K) ?_
 rintro e l ⟨rfl,d⟩
 clear K
 go_wp2
 go_ret
 exact⟨rfl,d⟩
theorem jP(d:Option Addr)(c:Nat)(I:List Int)(w:World)(f:af w d c I)(h:I.length≤64)(l:bT w):
  Calls Tryz.prog 209 #[.slice d I.length c] w fun e w'=>e=.returned (.int .u64 (nX I:Nat))∧Below w.heap.size w w':=
 yt d I.length c (nX I) 0 w (Bb d c I w f h l)
theorem BM{I J:List Int}(h:I.length=J.length)(d:J.length≤64):He I J=true:=by
 exact decide_eq_true ⟨by omega,h⟩
theorem lp(f l:Option Addr)(c d:Nat)(I J:List Int)(w:World)(z:af w f c I)(D:af w l d J)(h:I.length=J.length)(u:J.length≤64)(F:bT w):
  Calls Tryz.prog 240 #[.slice f I.length c,.slice l J.length d] w fun e w'=>e=.returned (.int .u64 (eM I J I.length:Nat))∧Below w.heap.size w w':=by
 have C:=AR f l c d I J w z D F
 rw[if_pos (BM h u),if_pos (BM h u)]at C
 exact BL f l I.length J.length c d _ 0 w C
structure jn (w wr:World) (r c:Nat) (ao:Option Addr) (n cap:Nat):Prop where
 bel:Below w.heap.size w wr
 box:aw wr w.heap.size (.int .i64 r) (.int .i64 c) (.slice ao n cap)
theorem jn.all{w wr w':World}{r c:Nat}{f:Option Addr}{n d:Nat}(h:jn w wr r c f n d)(l:Below wr.heap.size wr w'):jn w w' r c f n d:=⟨h.bel.trans (l.mono h.bel.size),h.box.all l⟩
theorem jn.set{w wr:World}{r c:Nat}{f:Option Addr}{n d:Nat}(h:jn w wr r c f n d){g:Nat}(l:w.heap.size<g)(j:Nat)(v:Value):jn w (wr.setCell ⟨g,j,none⟩ v) r c f n d:=⟨h.bel.setCell (p:=⟨g,j,none⟩) (Nat.le_of_lt l) _,h.box.other (p:=⟨g,j,none⟩) (by show w.heap.size≠g;omega) _⟩
theorem u6(r c n l:Nat)(F:Option Addr)(f:Nat→Nat)(Q:World→Option Addr→Nat→Nat→Prop)(w:World)(h6:c≤6)
  (Y:∀w' k,Below w.heap.size w w'→k<c→Calls Tryz.prog 213 #[.agg #[.int .i64 r,.int .i64 c,.slice F n l],.int .i64 k] w' fun e G=>∃H d,e=.returned (.slice H r d)∧Q G H d k∧Below w'.heap.size w' G)
  (Z:∀w' H d k,Below w.heap.size w w'→k<c→Q w' H d k→Calls Tryz.prog 209 #[.slice H r d] w' fun e G=>e=.returned (.int .u64 (f k:Nat))∧Below w'.heap.size w' G):
  Calls Tryz.prog 157 #[.agg #[.int .i64 r,.int .i64 c,.slice F n l]] w fun e w'=>∃g,e=.returned (.slice (some ⟨g,0,none⟩) c c)∧w.heap.size≤g∧bp w' g ((List.range c).map f)∧Below w.heap.size w w':=by
 have K1:=aa Y;have K2:=aa Z
 have M:=run_make_row' (P:=Tryz.prog) 23 28 (.int .u64 0) 8 Tryz.underlying23 (by kernel_rfl) rfl .i64 .i64 c (by omega) (by omega)
 have b0:=ac w (.cells #[.int .i64 r,.int .i64 c,.slice F n l] 25)
 have N:=aw.new w (.int .i64 r) (.int .i64 c) (.slice F n l)
 have s0:=ah w (.cells #[.int .i64 r,.int .i64 c,.slice F n l] 25)
 have O:=N.c1
 have U:=bp.made (w.alloc (.cells #[.int .i64 r,.int .i64 c,.slice F n l] 25)) c
 have b1:=ac (w.alloc (.cells #[.int .i64 r,.int .i64 c,.slice F n l] 25)) (.cells (madeCells #[.int .u64 0] c) 28)
 have ST:=aa (show jn w _ r c F n l from(jn.mk b0 N).all b1)
 rw[s0]at U
 have HM:=aa U
 clear Y Z b0 b1 N U s0
 go_enter Tryz.func157,Tryz.ntmps157
 go_wp2_with fail
 clear M O
 go_loopw[10] (fun i wr=>∃k:Nat,k≤c∧i=.int .i64 k∧Hid (bp wr (w.heap.size+1) (pU f c k))∧Hid (jn w wr r c F n l)) (fun i _=>c-(intOf i).toNat)
 case atStart=>exact⟨0,Nat.zero_le _,rfl,by rw[sY];exact HM,ST⟩
 case round=>
  clear HM ST
  obtain⟨k,hk,rfl,L,z⟩:=hrel
  by_cases K:k<c
  ·have ae:(k:Int)<(c:Int):=by omega
   have C:=aa (fun w' h=>uH K1 w' k h K)
   have D:=aa (fun w' H d h q=>uH K2 w' H d k h K q)
   obtain⟨o,X⟩:∃o,f k=o:=⟨_,rfl⟩
   rw[X]at D
   have eV:=aa X
   clear X
   have y0:=(uH z).box.c0;have O:=(uH z).box.c1;have y2:=(uH z).box.c2
   go_wp2_with fail
   clear y0 O y2
   refine(uH C _ (uH z).bel).mono ?_
   rintro e w2 ⟨H,d,rfl,hq,u⟩
   replace L:=aa ((uH L).below u (uH L).lt)
   replace z:=aa ((uH z).all u)
   have HQ:=aa hq
   clear u hq C
   go_wp2_with fail
   refine(uH D _ H d (uH z).bel (uH HQ)).mono ?_
   rintro e w3 ⟨rfl,u⟩
   have J:=(uH L).below u (uH L).lt
   have S2:=(uH z).all u
   have c0:=J.cell k (by rw[kv];exact K)
   have f0:=J.free k
   have R3:=aa (J.set k o)
   have S3:=aa (S2.set (g:=w.heap.size+1) (Nat.lt_succ_self _) k (.int .u64 (o:Int)))
   clear u D L z HQ J S2
   go_wp2_with fail
   go_round
   case rel=>exact⟨k+1,by omega,by go_num,by rw[←kw,uH eV];exact R3,S3⟩
   case measure=>simp[intOf];omega
  ·have V:k=c:=by omega
   subst V
   go_wp2_with fail
   exact bodyPost_ret (v:=.slice (some ⟨w.heap.size+1,0,none⟩) k k) (by simp[results,Tryz.results157,go_sem]) rfl ⟨_,rfl,Nat.le_succ _,by rw[←iS];exact uH L,(uH z).bel⟩
theorem me(r c f:Nat)(u:Option Addr)(S:List Nat)(w:World)(h:Mx w u f r c S)(G:bT w):
  Calls Tryz.prog 157 #[.agg #[.int .i64 r,.int .i64 c,.slice u S.length f]] w fun e w'=>∃g,e=.returned (.slice (some ⟨g,0,none⟩) c c)∧w.heap.size≤g∧bp w' g (bR r c S)∧Below w.heap.size w w':=by
 refine u6 r c S.length f u (jO r c S) (fun w' l d k=>af w' l d (aL (gl r c S k))) w h.2.2.2 (fun w' k z F=>?_) (fun w' l d k z F q=>?_)
 ·refine(lm r c f k u S w' (h.below z) F).mono ?_
  rintro e H ⟨l,d,rfl,_,q,D⟩
  exact⟨l,d,rfl,q,D⟩
 ·have:=jP l d (aL (gl r c S k)) w' q (by rw[av,bC];have:=h.2.2.1;omega) (G.all z)
  rwa[av,bC]at this
theorem u7(r c n d:Nat)(k:Int)(l:Option Addr)(I:List Nat)(f:Nat→Nat)(w:World)(hl:I.length=n)(h6:n≤36)(hI:af w l d (aL I))(hf:∀i,i<n→xV (I.getD i 0) k=f i)(hT:bT w):
  Calls Tryz.prog 155 #[.agg #[.int .i64 r,.int .i64 c,.slice l n d],.int .i64 k] w fun e w'=>∃g,e=.returned (.agg #[.int .i64 r,.int .i64 c,.slice (some ⟨g,0,none⟩) n n])∧w.heap.size≤g∧bp w' g ((List.range n).map f)∧Below w.heap.size w w':=by
 have HI:=aa hI;have HT:=aa hT;have HF:=aa hf;have HL:=aa (show(aL I).length=n from(av I).trans hl)
 have Q:=run_make_row' (P:=Tryz.prog) 23 28 (.int .u64 0) 8 Tryz.underlying23 (by kernel_rfl) rfl .i64 .i64 n (by omega) (by omega)
 have KB:=aa (gC w (.int .i64 r) (.int .i64 c) (.slice l n d) (.int .i64 0) (.int .i64 0) (.slice none 0 0))
 obtain⟨b0,M,x1⟩:=uH KB ((w.alloc (.cells #[.int .i64 r,.int .i64 c,.slice l n d] 25)).alloc (.cells #[.int .i64 0,.int .i64 0,.slice none 0 0] 25)) (by have:=Below.refl ((w.alloc (.cells #[.int .i64 r,.int .i64 c,.slice l n d] 25)).alloc (.cells #[.int .i64 0,.int .i64 0,.slice none 0 0] 25)).heap.size ((w.alloc (.cells #[.int .i64 r,.int .i64 c,.slice l n d] 25)).alloc (.cells #[.int .i64 0,.int .i64 0,.slice none 0 0] 25));simpa only[ah]using this)
 have U:((w.alloc (.cells #[.int .i64 r,.int .i64 c,.slice l n d] 25)).alloc (.cells #[.int .i64 0,.int .i64 0,.slice none 0 0] 25)).heap.size=w.heap.size+1+1:=by simp only[ah]
 have V:=M.c2
 have X:=bp.made ((w.alloc (.cells #[.int .i64 r,.int .i64 c,.slice l n d] 25)).alloc (.cells #[.int .i64 0,.int .i64 0,.slice none 0 0] 25)) n
 have J:=ac ((w.alloc (.cells #[.int .i64 r,.int .i64 c,.slice l n d] 25)).alloc (.cells #[.int .i64 0,.int .i64 0,.slice none 0 0] 25)) (.cells (madeCells #[.int .u64 0] n) 28)
 have x2:=M.all J
 have ST:=aa (show jn w _ r c l n d from(jn.mk b0 M).all J)
 have XR:=aa (x1.all J)
 rw[U]at X
 have HM:=aa X
 have Y:=x2.c2
 clear KB J X x2 b0 M x1 U hI hT hf
 go_enter Tryz.func155,Tryz.ntmps155
 go_wp2_with fail
 clear Q V Y
 go_loopw[15] (fun i wr=>∃k':Nat,k'≤n∧i=.int .i64 k'∧Hid (bp wr (w.heap.size+1+1) (pU f n k'))∧Hid (jn w wr r c l n d)∧Hid (aw wr (w.heap.size+1) (.int .i64 0) (.int .i64 0) (.slice none 0 0))) (fun i _=>n-(intOf i).toNat)
 case atStart=>exact⟨0,Nat.zero_le _,rfl,by rw[sY];exact HM,ST,XR⟩
 case round=>
  clear HM ST XR
  obtain⟨i,hi,rfl,H,z,N⟩:=hrel
  by_cases F:i<n
  ·have ap:(i:Int)<(n:Int):=by omega
   have G:i<I.length:=by have:=uH HL;rw[av]at this;omega
   obtain⟨b,ax,ae,O,am⟩:=cC ((uH HI).below (uH z).bel) G
   have hv:I.getD i 0<18446744073709551616:=by
    rw[←eI]
    exact(uH HI).lt i
   have K:=aa (fun w' (O:Below w.heap.size w w')=>eH (I.getD i 0) k w' hv ((uH HT).all O))
   have eF:=uH HF i F
   rw[eF]at K
   obtain⟨o,eo⟩:∃o,f i=o:=⟨_,rfl⟩
   rw[eo]at K
   have eV:=aa eo
   generalize I.getD i 0=x at*
   subst ae
   have V:=(uH z).box.c2
   clear eo eF hv O G
   go_wp2_with fail
   clear V am
   refine(uH K _ (uH z).bel).mono ?_
   rintro e w3 ⟨rfl,D⟩
   have u:=(uH H).below D (uH H).lt
   have S2:=(uH z).all D
   have X2:=(uH N).all D
   have c0:=u.cell i (by rw[kv];exact F)
   have f0:=u.free i
   have R3:=aa (u.set i o)
   have S3:=aa (S2.set (g:=w.heap.size+1+1) (by omega) i (.int .u64 (o:Int)))
   have X3:=aa (X2.other (p:=⟨w.heap.size+1+1,i,none⟩) (by show w.heap.size+1≠w.heap.size+1+1;omega) (.int .u64 (o:Int)))
   clear D K H z N u S2 X2
   go_wp2_with fail
   go_round
   case rel=>exact⟨i+1,by omega,by go_num,by rw[←kw,uH eV];exact R3,S3,X3⟩
   case measure=>simp[intOf];omega
  ·have Z:i=n:=by omega
   subst Z
   have y0:=(uH z).box.c0;have y1:=(uH z).box.c1
   have h:=uH N
   have U:=h.c0;have s1:=h.c1;have s2:=h.c2
   have f0:=h.free 0;have f1:=h.free 1;have f2:=h.free 2
   have L:=h.put (.int .i64 (r:Nat)) (.int .i64 (c:Nat)) (.slice (some ⟨w.heap.size+1+1,0,none⟩) i i)
   have z0:=L.c0;have z1:=L.c1;have z2:=L.c2
   have RR:=aa ((uH H).three (g:=w.heap.size+1) (by omega) (.int .i64 (r:Nat)) (.int .i64 (c:Nat)) (.slice (some ⟨w.heap.size+1+1,0,none⟩) i i))
   have BP:=aa (aq (uH z).bel (b:=w.heap.size+1) (by omega) (.int .i64 (r:Nat)) (.int .i64 (c:Nat)) (.slice (some ⟨w.heap.size+1+1,0,none⟩) i i))
   clear L h N H z
   go_wp2_with fail
   exact bodyPost_ret (v:=.agg #[.int .i64 r,.int .i64 c,.slice (some ⟨w.heap.size+1+1,0,none⟩) i i]) (by simp[results,Tryz.results155,go_sem,z0,z1,z2]) rfl ⟨_,rfl,by omega,by rw[←iS];exact uH RR,uH BP⟩
theorem mf(r c d:Nat)(k:Int)(f:Option Addr)(S:List Nat)(w:World)(h:Mx w f d r c S)(l:bT w):
  Calls Tryz.prog 155 #[.agg #[.int .i64 r,.int .i64 c,.slice f S.length d],.int .i64 k] w fun e w'=>∃g,e=.returned (.agg #[.int .i64 r,.int .i64 c,.slice (some ⟨g,0,none⟩) S.length S.length])∧w.heap.size≤g∧bp w' g (iX S k)∧Below w.heap.size w w':=
 u7 r c S.length d k f S (fun i=>xV (S.getD i 0) k) w rfl h.small h.1 (fun _ _=>rfl) l
end Go.Proofs.YtdhmglmccafbnaaGreatDoor
