/- Part 30 of the texts. -/
import Derived.Test.YtcbcmlaogehimaaGreatDoorPartp29
set_option maxHeartbeats 8000000
set_option maxRecDepth 20000
namespace Go.Proofs.YtcbcmlaogehimaaGreatDoor
open Go.RowKit
attribute [local go_sem ↓] Go.wp_at_zero Go.wp_at_succ
def bN(w:World)(g:Nat)(L:List Nat):Prop:=w.heap[g]? =some (.cells ((bH L).map Ep).toArray 3 (0,0))
theorem bN.cell{w:World}{g:Nat}{L:List Nat}(h:bN w g L)(j:Nat)(d:j<L.length):w.cell? ⟨g,j,none⟩=some (.int .i64 ((L[j]?.getD 0:Nat):Int)):=by
 rw[cell_of_row w g j _ _ _ h]
 simp[Ep,bH,d]
theorem bN.free{w:World}{g:Nat}{L:List Nat}(h:bN w g L)(j:Nat):w.frozen? ⟨g,j,none⟩=false:=frozen_of_row w g j _ _ h
theorem bN.set{w:World}{g:Nat}{L:List Nat}(h:bN w g L)(j x:Nat):bN (w.setCell ⟨g,j,none⟩ (.int .i64 (x:Int))) g (L.set j x):=by
 unfold bN
 rw[heap_setCell_same w g j _ _ _ h]
 simp[Ep,bH,List.map_set]
theorem bN.lt{w:World}{g:Nat}{L:List Nat}(h:bN w g L):g<w.heap.size:=(Array.getElem?_eq_some_iff.1 h).1
theorem bN.below{w d:World}{g:Nat}{L:List Nat}(h:bN w g L){B:Nat}(u:Below B w d)(z:g<B):bN d g L:=by
 unfold bN;rw[u.block g z];exact h
theorem bN.all{w d:World}{g:Nat}{L:List Nat}(h:bN w g L)(u:Below w.heap.size w d):bN d g L:=h.below u h.lt
theorem bN.other{w:World}{g:Nat}{L:List Nat}(h:bN w g L){p:Addr}(d:g≠p.block)(u:Value):bN (w.setCell p u) g L:=(Below.heap_setCell w p u g d).trans h
theorem bN.three{w:World}{b g:Nat}{L:List Nat}(h:bN w b L)(d:b≠g)(u A z:Value):bN (((w.setCell ⟨g,0,none⟩ u).setCell ⟨g,1,none⟩ A).setCell ⟨g,2,none⟩ z) b L:=
 ((h.other (p:=⟨g,0,none⟩) d _).other (p:=⟨g,1,none⟩) d _).other (p:=⟨g,2,none⟩) d _
theorem u6(n:Nat):madeCells #[Value.int .i64 0] n=((bH (List.replicate n 0)).map Ep).toArray:=by
 apply Array.ext'
 refine List.ext_getElem (by simp[madeCells,bH]) fun i d h=>?_
 simp[madeCells,Nat.mod_one,bH,Ep]
theorem bN.made(w:World)(n:Nat):bN (w.alloc (.cells (madeCells #[.int .i64 0] n) 3)) w.heap.size (List.replicate n 0):=by
 unfold bN
 rw[heap_alloc_new w _,u6]
theorem bN.ints{w:World}{g:Nat}{L:List Nat}(h:bN w g L)(u:∀x∈L,x≤1000000):je w (some ⟨g,0,none⟩) L.length (bH L):=by
 refine⟨by rw[aG];exact Nat.le_refl _,fun x z=>?_,.inr ⟨g,0,rfl,h.lt,fun i d=>?_⟩⟩
 ·obtain⟨y,A,rfl⟩:=List.mem_map.1 z
  have:=u y A
  omega
 ·rw[aG]at d
  rw[Nat.zero_add,h.cell i d,Ij L d,List.getD_eq_getElem?_getD]
theorem EG(a b:Nat):cO a b= -1∨cO a b=0∨cO a b=1:=by
 unfold cO bD
 repeat' split
 all_goals simp
theorem AQ(a b:Nat)(w:World)(u:a<18446744073709551616)(z:b<18446744073709551616):
  Calls Tryz.prog 101 #[.int .u64 a,.int .u64 b] w fun r d=>r=.returned (.bool (decide (cO a b<0)))∧Below w.heap.size w d:=by
 have C:=fun d=>kE a b d u z
 have A:cB a b=false→cO a b=0:=by
  unfold cB cO
  split
  ·intro _;rfl
  ·intro e;cases e
 cases hc:cB a b
 ·have h:=A hc
  rw[h,hc]at C
  rw[h]
  exact nX a b 0 false false false w (.inl ⟨rfl,rfl,rfl,rfl⟩) C
 ·rw[hc]at C
  rcases EG a b with e|e|e
  ·rw[e]at C⊢
   exact nX a b (-1) true true false w (.inr (.inl ⟨rfl,rfl,rfl,rfl⟩)) C
  ·rw[e]at C⊢
   exact nX a b 0 true false true w (.inr (.inr (.inl ⟨rfl,rfl,rfl,rfl⟩))) C
  ·rw[e]at C⊢
   exact nX a b 1 true false false w (.inr (.inr (.inr ⟨rfl,rfl,rfl,rfl⟩))) C
theorem mU{w:World}{z:Option Addr}{A:Nat}{u:List Nat}(h:ak w z A (bH u)){k:Nat}(D:k<u.length):∃b d,z=some ⟨b,d,none⟩∧b<w.heap.size∧w.cell? ⟨b,d+k,none⟩=some (.int .u64 (u.getD k 0:Nat)):=by
 obtain⟨b,d,F,G,H⟩:=h.ne (by rw[aG];omega)
 refine⟨b,d,F,G,?_⟩
 rw[H k (by rw[aG];exact D),ev]
def EH(w W:World)(r c n cap:Nat)(ao:Option Addr):Prop:=Below w.heap.size w W∧aM W w.heap.size (.int .i64 r) (.int .i64 c) (.slice ao n cap)∧aM W (w.heap.size+1) (.int .i64 0) (.int .i64 0) (.slice none 0 0)
theorem EH.all{w W z:World}{r c n d:Nat}{A:Option Addr}(h:EH w W r c n d A)(u:Below W.heap.size W z):EH w z r c n d A:=⟨h.1.trans (u.mono h.1.size),h.2.1.all u,h.2.2.all u⟩
theorem LK(r c:Int)(A:Option Addr)(n d:Nat)(i k:Int)(C s:Nat)(er:Int)(w:World)(F:er=1∨er=7)
  (H:∀u,Calls Tryz.prog 243 #[.agg #[.int .i64 r,.int .i64 c,.slice A n d],.int .i64 c,.int .i64 i,.int .i64 k] u fun e G=>e=.returned (.int .i64 er)∧Below u.heap.size u G):
  Calls Tryz.prog 213 #[.agg #[.int .i64 r,.int .i64 c,.slice A n d],.int .i64 i,.int .i64 k,.int .u64 C,.int .u64 s] w fun e u=>∃v,e=.returned (.tuple #[v,.int .i64 er])∧dj w.heap.size u 0 0 [] v∧Below w.heap.size w u:=by
 have K:=ac (H ((w.alloc (.cells #[.int .i64 r,.int .i64 c,.slice A n d] 24)).alloc (.cells #[.int .i64 0,.int .i64 0,.slice none 0 0] 24)))
 simp only[aq]at K
 have I:=ac (mT w (.int .i64 r) (.int .i64 c) (.slice A n d) (.int .i64 0) (.int .i64 0) (.slice none 0 0))
 clear H
 rcases F with rfl|rfl
 all_goals
  go_enter Tryz.func213,Tryz.ntmps213
  go_wp2_with fail
  refine Calls.mono (uH K) ?_
  rintro e U ⟨rfl,z⟩
  obtain⟨J,Q,h⟩:=uH I U z
  clear K I z Q
  have X:=h.free 0;have Y:=h.free 1;have Z:=h.free 2
  have s0:=h.c0;have s1:=h.c1;have s2:=h.c2
  have D:=h.put (.int .i64 0) (.int .i64 0) (.slice none 0 0)
  have L:=D.c0;have z1:=D.c1;have z2:=D.c2
  have O:=ac (aR J (b:=w.heap.size+1) (by omega) (.int .i64 0) (.int .i64 0) (.slice none 0 0))
  clear D h J
  go_wp2
  refine bodyPost_ret (v:=.tuple #[.agg #[.int .i64 0,.int .i64 0,.slice none 0 0],_]) (by simp[results,Tryz.results213,go_sem,L,z1,z2]) rfl ⟨_,rfl,dj.zero _ _,uH O⟩
theorem AR(r c n u i k C s u0 u1 u2 X Y Z:Nat)(D:Option Addr)(S:List Nat)(w:World)
  (C1:∀h,Calls Tryz.prog 243 #[.agg #[.int .i64 r,.int .i64 c,.slice D n u],.int .i64 c,.int .i64 i,.int .i64 k] h fun e z=>e=.returned (.int .i64 0)∧Below h.heap.size h z)
  (C2:∀h,Calls Tryz.prog 245 #[.agg #[.int .i64 r,.int .i64 c,.slice D n u],.int .i64 i] h fun e z=>e=.returned (.agg #[.int .i64 u0,.int .i64 u1,.int .i64 u2])∧Below h.heap.size h z)
  (C3:∀h,Calls Tryz.prog 245 #[.agg #[.int .i64 r,.int .i64 c,.slice D n u],.int .i64 k] h fun e z=>e=.returned (.agg #[.int .i64 X,.int .i64 Y,.int .i64 Z])∧Below h.heap.size h z)
  (C4:∀h,Below w.heap.size w h→Calls Tryz.prog 244 #[.agg #[.int .i64 r,.int .i64 c,.slice D n u],.agg #[.int .i64 u0,.int .i64 u1,.int .i64 u2],.agg #[.int .i64 X,.int .i64 Y,.int .i64 Z],.int .u64 C,.int .u64 s] h fun e z=>∃g,e=.returned (.agg #[.int .i64 r,.int .i64 c,.slice (some ⟨g,0,none⟩) n n])∧h.heap.size≤g∧cf z g S∧Below h.heap.size h z):
  Calls Tryz.prog 213 #[.agg #[.int .i64 r,.int .i64 c,.slice D n u],.int .i64 i,.int .i64 k,.int .u64 C,.int .u64 s] w fun e h=>∃g,e=.returned (.tuple #[.agg #[.int .i64 r,.int .i64 c,.slice (some ⟨g,0,none⟩) n n],.int .i64 0])∧w.heap.size≤g∧cf h g S∧Below w.heap.size w h:=by
 have K:=ac (C1 ((w.alloc (.cells #[.int .i64 r,.int .i64 c,.slice D n u] 24)).alloc (.cells #[.int .i64 0,.int .i64 0,.slice none 0 0] 24)))
 simp only[aq]at K
 have KB:=ac (mT w (.int .i64 r) (.int .i64 c) (.slice D n u) (.int .i64 0) (.int .i64 0) (.slice none 0 0))
 have K2:=ac C2;have K3:=ac C3;have K4:=ac C4
 clear C1 C2 C3 C4
 go_enter Tryz.func213,Tryz.ntmps213
 go_wp2_with fail
 refine Calls.mono (uH K) ?_
 rintro e w1 ⟨rfl,L⟩
 obtain⟨hB,J,hX⟩:=uH KB w1 L
 clear K KB L
 have A:=ac (show EH w w1 r c n u D from⟨hB,J,hX⟩)
 have G:=J.c0;have H:=J.c1;have I:=J.c2
 clear hB J hX
 go_wp2_with fail
 clear G H I
 refine ap (fun W=>EH w W r c n u D) (uH A) ?_
 clear A
 rintro W0 st
 have A:=ac (st.all ((Below.refl W0.heap.size W0).drew))
 clear st
 have G:=(uH A).2.1.c0;have H:=(uH A).2.1.c1;have I:=(uH A).2.1.c2
 go_region_with (first
  |(go_at_call 245;refine(uH K2 _).mono ?_;rintro e w4 ⟨rfl,F⟩;clear G H I;have d:=(uH A).all F;have G:=d.2.1.c0;have H:=d.2.1.c1;have I:=d.2.1.c2;replace A:=ac d;clear d F K2)
  |(go_at_call 245;refine(uH K3 _).mono ?_;rintro e w5 ⟨rfl,F⟩;clear G H I;have d:=(uH A).all F;have G:=d.2.1.c0;have H:=d.2.1.c1;have I:=d.2.1.c2;replace A:=ac d;clear d F K3)
  |(go_at_call 244;refine(uH K4 _ (uH A).1).mono ?_;rintro e w6 ⟨g,rfl,hg,U,F⟩;clear G H I;have d:=(uH A).all F;have f0:=d.2.2.free 0;have f1:=d.2.2.free 1;have f2:=d.2.2.free 2;have s0:=d.2.2.c0;have s1:=d.2.2.c1;have s2:=d.2.2.c2;have HG:=ac (Nat.le_trans (uH A).1.size hg);have O:=d.2.2.put (.int .i64 r) (.int .i64 c) (.slice (some ⟨g,0,none⟩) n n);have z0:=O.c0;have z1:=O.c1;have z2:=O.c2;have Q:=ac (U.three (Eu U d.2.2) (.int .i64 r) (.int .i64 c) (.slice (some ⟨g,0,none⟩) n n));have BP:=ac (aR d.1 (b:=w.heap.size+1) (by omega) (.int .i64 r) (.int .i64 c) (.slice (some ⟨g,0,none⟩) n n));clear d F hg U O A K4)
  |fail "NO ARM")
 all_goals
  go_wp2
  exact bodyPost_ret (v:=.tuple #[.agg #[.int .i64 r,.int .i64 c,.slice (some ⟨g,0,none⟩) n n],.int .i64 0]) (by simp[results,Tryz.results213,go_sem,z0,z1,z2]) rfl ⟨g,rfl,uH HG,uH Q,uH BP⟩
end Go.Proofs.YtcbcmlaogehimaaGreatDoor
namespace Go.Proofs.YtcbcmlaogehimaaGreatDoor
open Go.RowKit
theorem Li{l i k:Nat}(h:i<l)(u:k<l)(d:i≠k):
  ((i:Int)<0∧(0:Int)=7)∨(0≤(i:Int)∧(l:Int)≤i∧(0:Int)=7)∨(0≤(i:Int)∧(i:Int)<l∧(k:Int)<0∧(0:Int)=7)∨(0≤(i:Int)∧(i:Int)<l∧0≤(k:Int)∧(l:Int)≤k∧(0:Int)=7)∨(0≤(i:Int)∧(i:Int)<l∧0≤(k:Int)∧(k:Int)<l∧(i:Int)=k∧(0:Int)=7)∨(0≤(i:Int)∧(i:Int)<l∧0≤(k:Int)∧(k:Int)<l∧¬(i:Int)=k∧(0:Int)=0):=by
 omega
theorem Jf(c:Nat)(S:List Nat)(i k:Nat):S[i*c+k]?.getD 0=aP c S i k:=by
 unfold aP
 rw[List.getD_eq_getElem?_getD]
def tw(r c:Nat)(S:List Nat)(i k C s j:Nat):List Nat:=mQ r c (fun p q=>if p<j then(if q=i then aV (mV C (aP c S p i)) (mV s (aP c S p k))else if q=k then aV (mV C (aP c S p k)) (fN (mV s (aP c S p i)))else aP c S p q)else aP c S p q)
theorem yV(r c:Nat)(S:List Nat)(i k C s j:Nat):(tw r c S i k C s j).length=r*c:=fr _ _ _
theorem MG(r c:Nat)(S:List Nat)(i k C s:Nat)(h:S.length=r*c):tw r c S i k C s 0=S:=by
 unfold tw
 rw[←Ea r c S h]
 refine mR (fun p q _ _=>?_)
 rw[Ea r c S h,if_neg (by omega)]
 rfl
theorem yW(r c:Nat)(S:List Nat){i k:Nat}(C s:Nat)(z:i<c)(A:k<c):tw r c S i k C s r=gD r c S i k C s:=by
 unfold tw gD
 rw[show Fy c r (MT c r (Fy r c S) i k C s)=mQ r c (fun p q=>aP r (MT c r (Fy r c S) i k C s) q p)from rfl]
 refine mR (fun p q d u=>?_)
 rw[if_pos d,Je c r (Fy r c S) i k C s u d]
 have h:∀{a},a<c→aP r (Fy r c S) a p=aP c S p a:=fun{a} D=>lP c r (fun k i=>aP c S i k) D d
 rw[h z,h A,h u]
theorem Ik(r c:Nat)(S:List Nat){i k C s j:Nat}(D:i<c)(F:k<c)(h:i≠k)(z:j<r):
  ((tw r c S i k C s j).set (j*c+i) (aV (mV C (aP c S j i)) (mV s (aP c S j k)))).set (j*c+k) (aV (mV C (aP c S j k)) (fN (mV s (aP c S j i))))=tw r c S i k C s (j+1):=by
 unfold tw
 rw[yQ r c _ _ z D,yQ r c _ _ z F]
 refine mR (fun q p _ _=>?_)
 by_cases A:q<j
 ·rw[if_neg (fun e=>by omega),if_neg (fun e=>by omega),if_pos A,if_pos (show q<j+1 by omega)]
 ·by_cases u:q=j
  ·subst u
   by_cases p2:p=k
   ·rw[if_pos ⟨rfl,p2⟩,if_pos (show q<q+1 by omega),if_neg (fun e=>h (e.symm.trans p2)),if_pos p2]
   ·rw[if_neg (fun e=>p2 e.2)]
    by_cases d:p=i
    ·rw[if_pos ⟨rfl,d⟩,if_pos (show q<q+1 by omega),if_pos d]
    ·rw[if_neg (fun e=>d e.2),if_neg (show¬q<q by omega),if_pos (show q<q+1 by omega),if_neg d,if_neg p2]
  ·rw[if_neg (fun e=>u e.1),if_neg (fun e=>u e.1),if_neg A,if_neg (show¬q<j+1 by omega)]
theorem Lj{w:World}{z:Option Addr}{d r c:Nat}{S:List Nat}(h:Mx w z d r c S)(i k C s j:Nat):∀x∈tw r c S i k C s j,x<18446744073709551616:=by
 intro x u
 unfold tw mQ at u
 obtain⟨p,_,rfl⟩:=List.mem_map.1 u
 show(if _ then(if _ then _ else if _ then _ else _)else _)<_
 split
 ·split
  ·exact h9 _ _ (df _ _) (df _ _)
  ·split
   ·exact h9 _ _ (df _ _) (oD _ (df _ _))
   ·exact h.el_lt _ _
 ·exact h.el_lt _ _
theorem AU(r c d i k C s:Nat)(D:Option Addr)(S:List Nat)(w:World)(h:Mx w D d r c S)(G:i<c)(H:k<c)(F:i≠k)(O:C<18446744073709551616)(Q:s<18446744073709551616)(U:cr w):
  Calls Tryz.prog 213 #[.agg #[.int .i64 r,.int .i64 c,.slice D S.length d],.int .i64 i,.int .i64 k,.int .u64 C,.int .u64 s] w fun e u=>∃g,e=.returned (.tuple #[.agg #[.int .i64 r,.int .i64 c,.slice (some ⟨g,0,none⟩) S.length S.length],.int .i64 0])∧w.heap.size≤g∧cf u g (gD r c S i k C s)∧Below w.heap.size w u:=by
 have J:=h.small
 have X:=h.2.2.1
 have Z:=h.2.2.2
 rw[←yW r c S C s G H]
 refine AR r c S.length d i k C s i c r k c r D (tw r c S i k C s r) w
  (fun u=>xz r c D S.length d c i k 0 u (by omega) (yR h) (Li G H F))
  (fun u=>re r c S.length d i D u)
  (fun u=>re r c S.length d k D u)
  (fun u K=>?_)
 have Y:=h.below K
 refine qt r c S.length d i c r k c r C s D (fun j=>tw r c S i k C s j) (fun j=>j*c+i) (fun j=>j*c+k) (fun j=>aP c S j i) (fun j=>aP c S j k) (fun j=>aV (mV C (aP c S j i)) (mV s (aP c S j k))) (fun j=>aV (mV C (aP c S j k)) (fN (mV s (aP c S j i)))) u J X (by show ak u D d (bH (tw r c S i k C s 0));rw[MG r c S i k C s h.2.1];exact Y.1) (fun j=>by rw[yV,h.2.1]) (fun j A=>?_) (fun z j A=>?_) (fun z j A=>?_) (fun z j I A=>AN _ _ C s z (h.el_lt _ _) (h.el_lt _ _) O Q ((U.all K).all I))
 ·have L:j*c+i<S.length:=by rw[h.2.1];exact dh A G
  have p2:j*c+k<S.length:=by rw[h.2.1];exact dh A H
  refine⟨L,p2,fun e=>F (by have e':j*c+i=j*c+k:=e;omega),?_,?_,Ik r c S G H F A⟩
  ·show(tw r c S i k C s j)[j*c+i]?.getD 0=_
   rw[Jf]
   unfold tw
   rw[lP r c _ A G,if_neg (Nat.lt_irrefl j)]
  ·show(tw r c S i k C s j)[j*c+k]?.getD 0=_
   rw[Jf]
   unfold tw
   rw[lP r c _ A H,if_neg (Nat.lt_irrefl j)]
 ·have L:j*c+i<S.length:=by rw[h.2.1];exact dh A G
  exact rc i c r j (j*c) (j*c+i) z (cG j c) (by simp;omega) (by omega)
 ·have p2:j*c+k<S.length:=by rw[h.2.1];exact dh A H
  exact rc k c r j (j*c) (j*c+k) z (cG j c) (by simp;omega) (by omega)
theorem u7(r c d i k C s:Nat)(u:Option Addr)(S:List Nat)(w:World)(h:Mx w u d r c S)(D:i<c)(F:k<c)(z:i≠k)(I:C<18446744073709551616)(J:s<18446744073709551616)(K:cr w):
  Calls Tryz.prog 213 #[.agg #[.int .i64 r,.int .i64 c,.slice u S.length d],.int .i64 i,.int .i64 k,.int .u64 C,.int .u64 s] w fun e A=>∃v,e=.returned (.tuple #[v,.int .i64 0])∧dj w.heap.size A r c (gD r c S i k C s) v∧Below w.heap.size w A:=by
 refine(AU r c d i k C s u S w h D F z I J K).mono ?_
 rintro e A ⟨g,rfl,L,H,O⟩
 rw[←yW r c S C s D F]at H⊢
 have q:=H.bits (Lj h i k C s r)
 have G:(tw r c S i k C s r).length=S.length:=by rw[yV,h.2.1]
 exact⟨_,rfl,⟨_,S.length,by rw[G],.inr ⟨g,0,rfl,L⟩,by rw[G]at q;exact q⟩,O⟩
attribute [local go_sem ↓] Go.wp_at_zero Go.wp_at_succ
theorem kN(a b:Nat)(w:World)(d:a<18446744073709551616)(h:b<18446744073709551616):
  Calls Tryz.prog 101 #[.int .u64 a,.int .u64 b] w fun r u=>r=.returned (.bool (jo a b))∧Below w.heap.size w u:=AQ a b w d h
def bX(r c:Nat)(S:List Nat)(k:Nat):List Nat:=KH c S 0 k r 1
def gi(r c:Nat)(S:List Nat)(k:Nat):Nat:=mr (bH (bX r c S k))
def ot(r c:Nat)(S:List Nat)(p q:Nat):Nat:=mO (bH (bX r c S p)) (bH (bX r c S q)) r
def MH(xx yy g:Nat):Nat:=dV (aV yy (fN xx)) (aV g g)
def vd(z:Nat):Nat:=dV 4607182418800017408 (aV (fR z) (sV (aV 4607182418800017408 (mV z z))))
def Jg(z:Nat):Nat:=if fS z=true then fN (vd z)else vd z
def sv(t:Nat):Nat:=dV 4607182418800017408 (sV (aV 4607182418800017408 (mV t t)))
def qu(t:Nat):Nat:=mV (sv t) t
def iO(r c:Nat)(S:List Nat)(p q:Nat):Nat:=Jg (MH (ot r c S p p) (ot r c S q q) (ot r c S p q))
structure Sd where
 W:List Nat
 V:List Nat
 still:Bool
def nA(r c low:Nat)(S:List Nat)(p q:Nat):Bool:=!(jo low (gi r c S p))||(!(jo low (gi r c S q))|| !(jo (xV (mV (gi r c S p) (gi r c S q)) (-44)) (fR (ot r c S p q))))
def M7(r c p q:Nat)(s:Sd):Sd:=⟨gD r c s.W p q (sv (iO r c s.W p q)) (fN (qu (iO r c s.W p q))),gD c c s.V p q (sv (iO r c s.W p q)) (fN (qu (iO r c s.W p q))),false⟩
def ou(r c low p q:Nat)(s:Sd):Sd:=if nA r c low s.W p q=true then s else M7 r c p q s
def kR(r c low p:Nat)(s:Sd):Nat→Sd
 |0=>s
 |t+1=>ou r c low p (p+1+t) (kR r c low p s t)
def ms(r c low:Nat)(s:Sd):Nat→Sd
 |0=>s
 |p+1=>kR r c low p (ms r c low s p) (c-1-p)
def yX(r c low:Nat)(s:Sd):Sd:=ms r c low ⟨s.W,s.V,true⟩ c
def eM(r c low:Nat)(s:Sd):Nat→Sd
 |0=>s
 |n+1=>if(eM r c low s n).still=true then eM r c low s n else yX r c low (eM r c low s n)
def d7(S:List Nat)(k:Int):List Nat:=(List.range S.length).map (fun i=>xV (S.getD i 0) k)
def nK(r c:Nat)(S:List Nat):List Nat:=(List.range c).map (gi r c S)
theorem bt(r c:Nat)(S:List Nat)(k:Nat):(bX r c S k).length=r:=by unfold bX KH;rw[fr,Nat.mul_one]
theorem j6(S:List Nat)(k:Int):(d7 S k).length=S.length:=by simp[d7]
theorem pG(r c:Nat)(S:List Nat):(nK r c S).length=c:=by simp[nK]
theorem pH(r c:Nat)(S:List Nat)(p q:Nat):ot r c S p q<18446744073709551616:=kJ _ _ _
theorem xC(r c:Nat)(S:List Nat)(k:Nat):gi r c S k<18446744073709551616:=xm _
theorem Lk(z:Nat):vd z<18446744073709551616:=yu _ _
theorem EI(t:Nat):sv t<18446744073709551616:=yu _ _
theorem Ll(t:Nat):qu t<18446744073709551616:=df _ _
theorem mW(r c u k:Nat)(D:Option Addr)(S:List Nat)(w:World)(h:Mx w D u r c S)(hk:k<c):
  Calls Tryz.prog 175 #[.agg #[.int .i64 r,.int .i64 c,.slice D S.length u],.int .i64 k] w fun e F=>∃z d,e=.returned (.slice z r d)∧uR w.heap.size z (bH (bX r c S k))∧ak F z d (bH (bX r c S k))∧Below w.heap.size w F:=by
 have I:=ad w (.cells #[.int .i64 r,.int .i64 c,.slice D S.length u] 24)
 have K:=En r c u 0 k r 1 D S _ (h.below I) (by omega) (by omega)
 rw[show((0:Nat):Int)=0 from rfl,show((1:Nat):Int)=1 from rfl]at K
 simp only[aq]at K
 have K:=ac K
 have H:=ac (aM.new w (.int .i64 r) (.int .i64 c) (.slice D S.length u))
 have J:=ac I
 have X:(bX r c S k).length=r:=bt r c S k
 change Hid (Calls _ _ _ _ fun e F=>∃v,e=.returned (.tuple #[v,.int .i64 0])∧dj (w.heap.size+1) F r 1 (bX r c S k) v∧Below (w.heap.size+1) _ F)at K
 generalize bX r c S k=T at*
 have Y:=(uH H).c0;have Z:=(uH H).c1;have y2:=(uH H).c2
 clear I h
 go_enter Tryz.func175,Tryz.ntmps175
 go_wp2_with fail
 clear Y Z y2
 refine Calls.mono (uH K) ?_
 rintro e O ⟨v,rfl,hN,U⟩
 obtain⟨z,d,rfl,G,Q⟩:=hN
 rw[X]at*
 have L:=ad O (.cells #[.int .i64 r,.int .i64 1,.slice z r d] 24)
 have z2:=(aM.new O (.int .i64 r) (.int .i64 1) (.slice z r d)).c2
 have A:Below w.heap.size w O:=(uH J).trans (U.mono (by have:=(uH J).size;simp at this⊢))
 have R:=ac (show uR w.heap.size z (bH T)∧ak _ z d (bH T)∧Below w.heap.size w _ from⟨G.least (Nat.le_succ _),Q.below L,A.trans (L.mono A.size)⟩)
 clear K J H U A G Q L
 go_wp2_with fail
 exact bodyPost_ret (v:=.slice z r d) (by simp[results,Tryz.results175,go_sem]) rfl ⟨z,d,rfl,uH R⟩
theorem EJ(z A:Option Addr)(n m c d o:Nat)(D:Int)(w:World)
  (C:Calls Tryz.prog 136 #[.slice z n c,.slice A m d] w fun e h=>e=.returned (.tuple #[.int .u64 (o:Nat),.int .i64 D])∧Below w.heap.size w h):
  Calls Tryz.prog 211 #[.slice z n c,.slice A m d] w fun e h=>e=.returned (.int .u64 (o:Nat))∧Below w.heap.size w h:=by
 have K:=ac C
 clear C
 go_enter Tryz.func211,Tryz.ntmps211
 go_wp2_with fail
 refine Calls.mono (uH K) ?_
 rintro e F ⟨rfl,u⟩
 clear K
 go_wp2
 go_ret
 exact⟨rfl,u⟩
theorem AV(u:Option Addr)(n c o:Nat)(z:Int)(w:World)
  (C:Calls Tryz.prog 210 #[.slice u n c] w fun e d=>e=.returned (.tuple #[.int .u64 (o:Nat),.int .i64 z])∧Below w.heap.size w d):
  Calls Tryz.prog 171 #[.slice u n c] w fun e d=>e=.returned (.int .u64 (o:Nat))∧Below w.heap.size w d:=by
 have K:=ac C
 clear C
 go_enter Tryz.func171,Tryz.ntmps171
 go_wp2_with fail
 refine Calls.mono (uH K) ?_
 rintro e A ⟨rfl,h⟩
 clear K
 go_wp2
 go_ret
 exact⟨rfl,h⟩
theorem kO(d:Option Addr)(c:Nat)(I:List Int)(w:World)(h:ak w d c I)(u:I.length≤64)(z:cr w):
  Calls Tryz.prog 171 #[.slice d I.length c] w fun e A=>e=.returned (.int .u64 (mr I:Nat))∧Below w.heap.size w A:=
 AV d I.length c (mr I) 0 w (DT d c I w h u z)
theorem EK{I J:List Int}(h:I.length=J.length)(d:J.length≤64):LE I J=true:=by
 exact decide_eq_true ⟨by omega,h⟩
theorem mX(u z:Option Addr)(c d:Nat)(I J:List Int)(w:World)(D:ak w u c I)(F:ak w z d J)(h:I.length=J.length)(A:J.length≤64)(G:cr w):
  Calls Tryz.prog 211 #[.slice u I.length c,.slice z J.length d] w fun e H=>e=.returned (.int .u64 (mO I J I.length:Nat))∧Below w.heap.size w H:=by
 have C:=DM u z c d I J w D F G
 rw[if_pos (EK h A),if_pos (EK h A)]at C
 exact EJ u z I.length J.length c d _ 0 w C
structure nL (w wr:World) (r c:Nat) (ao:Option Addr) (n cap:Nat):Prop where
 bel:Below w.heap.size w wr
 box:aM wr w.heap.size (.int .i64 r) (.int .i64 c) (.slice ao n cap)
theorem nL.all{w wr u:World}{r c:Nat}{z:Option Addr}{n d:Nat}(h:nL w wr r c z n d)(A:Below wr.heap.size wr u):nL w u r c z n d:=⟨h.bel.trans (A.mono h.bel.size),h.box.all A⟩
theorem nL.set{w wr:World}{r c:Nat}{u:Option Addr}{n d:Nat}(h:nL w wr r c u n d){g:Nat}(z:w.heap.size<g)(j:Nat)(v:Value):nL w (wr.setCell ⟨g,j,none⟩ v) r c u n d:=⟨h.bel.setCell (p:=⟨g,j,none⟩) (Nat.le_of_lt z) _,h.box.other (p:=⟨g,j,none⟩) (by show w.heap.size≠g;omega) _⟩
theorem xD(r c n u:Nat)(G:Option Addr)(f:Nat→Nat)(Q:World→Option Addr→Nat→Nat→Prop)(w:World)(h6:c≤6)
  (C1:∀z k,Below w.heap.size w z→k<c→Calls Tryz.prog 175 #[.agg #[.int .i64 r,.int .i64 c,.slice G n u],.int .i64 k] z fun e H=>∃I d,e=.returned (.slice I r d)∧Q H I d k∧Below z.heap.size z H)
  (C2:∀z I d k,Below w.heap.size w z→k<c→Q z I d k→Calls Tryz.prog 171 #[.slice I r d] z fun e H=>e=.returned (.int .u64 (f k:Nat))∧Below z.heap.size z H):
  Calls Tryz.prog 123 #[.agg #[.int .i64 r,.int .i64 c,.slice G n u]] w fun e z=>∃g,e=.returned (.slice (some ⟨g,0,none⟩) c c)∧w.heap.size≤g∧cf z g ((List.range c).map f)∧Below w.heap.size w z:=by
 have K1:=ac C1;have K2:=ac C2
 have O:=run_make_row' (P:=Tryz.prog) 22 69 (.int .u64 0) 8 Tryz.underlying22 (by kernel_rfl) rfl .i64 .i64 c (by omega) (by omega)
 have b0:=ad w (.cells #[.int .i64 r,.int .i64 c,.slice G n u] 24)
 have U:=aM.new w (.int .i64 r) (.int .i64 c) (.slice G n u)
 have s0:=aq w (.cells #[.int .i64 r,.int .i64 c,.slice G n u] 24)
 have X:=U.c1
 have Y:=cf.made (w.alloc (.cells #[.int .i64 r,.int .i64 c,.slice G n u] 24)) c
 have b1:=ad (w.alloc (.cells #[.int .i64 r,.int .i64 c,.slice G n u] 24)) (.cells (madeCells #[.int .u64 0] c) 69)
 have ST:=ac (show nL w _ r c G n u from(nL.mk b0 U).all b1)
 rw[s0]at Y
 have HM:=ac Y
 clear C1 C2 b0 b1 U Y s0
 go_enter Tryz.func123,Tryz.ntmps123
 go_wp2_with fail
 clear O X
 go_loopw[10] (fun i wr=>∃k:Nat,k≤c∧i=.int .i64 k∧Hid (cf wr (w.heap.size+1) (uN f c k))∧Hid (nL w wr r c G n u)) (fun i _=>c-(intOf i).toNat)
 case atStart=>exact⟨0,Nat.zero_le _,rfl,by rw[yL];exact HM,ST⟩
 case round=>
  clear HM ST
  obtain⟨k,hk,rfl,L,F⟩:=hrel
  by_cases K:k<c
  ·have aa:(k:Int)<(c:Int):=by omega
   have C:=ac (fun z h=>uH K1 z k h K)
   have D:=ac (fun z I d h q=>uH K2 z I d k h K q)
   obtain⟨o,eo⟩:∃o,f k=o:=⟨_,rfl⟩
   rw[eo]at D
   have eV:=ac eo
   clear eo
   have y0:=(uH F).box.c0;have X:=(uH F).box.c1;have y2:=(uH F).box.c2
   go_wp2_with fail
   clear y0 X y2
   refine(uH C _ (uH F).bel).mono ?_
   rintro e w2 ⟨I,d,rfl,hq,A⟩
   replace L:=ac ((uH L).below A (uH L).lt)
   replace F:=ac ((uH F).all A)
   have HQ:=ac hq
   clear A hq C
   go_wp2_with fail
   refine(uH D _ I d (uH F).bel (uH HQ)).mono ?_
   rintro e w3 ⟨rfl,A⟩
   have J:=(uH L).below A (uH L).lt
   have S2:=(uH F).all A
   have c0:=J.cell k (by rw[nY];exact K)
   have f0:=J.free k
   have R3:=ac (J.set k o)
   have S3:=ac (S2.set (g:=w.heap.size+1) (Nat.lt_succ_self _) k (.int .u64 (o:Int)))
   clear A D L F HQ J S2
   go_wp2_with fail
   go_round
   case rel=>exact⟨k+1,by omega,by go_num,by rw[←nZ,uH eV];exact R3,S3⟩
   case measure=>simp[intOf];omega
  ·have Z:k=c:=by omega
   subst Z
   go_wp2_with fail
   exact bodyPost_ret (v:=.slice (some ⟨w.heap.size+1,0,none⟩) k k) (by simp[results,Tryz.results123,go_sem]) rfl ⟨_,rfl,Nat.le_succ _,by rw[←lF];exact uH L,(uH F).bel⟩
theorem nB(r c u:Nat)(D:Option Addr)(S:List Nat)(w:World)(h:Mx w D u r c S)(I:cr w):
  Calls Tryz.prog 123 #[.agg #[.int .i64 r,.int .i64 c,.slice D S.length u]] w fun e z=>∃g,e=.returned (.slice (some ⟨g,0,none⟩) c c)∧w.heap.size≤g∧cf z g (nK r c S)∧Below w.heap.size w z:=by
 refine xD r c S.length u D (gi r c S) (fun z A d k=>ak z A d (bH (bX r c S k))) w h.2.2.2 (fun z k F H=>?_) (fun z A d k F H q=>?_)
 ·refine(mW r c u k D S z (h.below F) H).mono ?_
  rintro e J ⟨A,d,rfl,_,q,G⟩
  exact⟨A,d,rfl,q,G⟩
 ·have:=kO A d (bH (bX r c S k)) z q (by rw[aG,bt];have:=h.2.2.1;omega) (I.all F)
  rwa[aG,bt]at this
theorem xG(r c n d:Nat)(k:Int)(u:Option Addr)(I:List Nat)(f:Nat→Nat)(w:World)(hl:I.length=n)(h6:n≤36)(hI:ak w u d (bH I))(hf:∀i,i<n→xV (I.getD i 0) k=f i)(hT:cr w):
  Calls Tryz.prog 121 #[.agg #[.int .i64 r,.int .i64 c,.slice u n d],.int .i64 k] w fun e F=>∃g,e=.returned (.agg #[.int .i64 r,.int .i64 c,.slice (some ⟨g,0,none⟩) n n])∧w.heap.size≤g∧cf F g ((List.range n).map f)∧Below w.heap.size w F:=by
 have HI:=ac hI;have HT:=ac hT;have HF:=ac hf;have HL:=ac (show(bH I).length=n from(aG I).trans hl)
 have Y:=run_make_row' (P:=Tryz.prog) 22 69 (.int .u64 0) 8 Tryz.underlying22 (by kernel_rfl) rfl .i64 .i64 n (by omega) (by omega)
 have KB:=ac (mT w (.int .i64 r) (.int .i64 c) (.slice u n d) (.int .i64 0) (.int .i64 0) (.slice none 0 0))
 obtain⟨b0,Q,x1⟩:=uH KB ((w.alloc (.cells #[.int .i64 r,.int .i64 c,.slice u n d] 24)).alloc (.cells #[.int .i64 0,.int .i64 0,.slice none 0 0] 24)) (by have:=Below.refl ((w.alloc (.cells #[.int .i64 r,.int .i64 c,.slice u n d] 24)).alloc (.cells #[.int .i64 0,.int .i64 0,.slice none 0 0] 24)).heap.size ((w.alloc (.cells #[.int .i64 r,.int .i64 c,.slice u n d] 24)).alloc (.cells #[.int .i64 0,.int .i64 0,.slice none 0 0] 24));simpa only[aq]using this)
 have Z:((w.alloc (.cells #[.int .i64 r,.int .i64 c,.slice u n d] 24)).alloc (.cells #[.int .i64 0,.int .i64 0,.slice none 0 0] 24)).heap.size=w.heap.size+1+1:=by simp only[aq]
 have y2:=Q.c2
 have hm:=cf.made ((w.alloc (.cells #[.int .i64 r,.int .i64 c,.slice u n d] 24)).alloc (.cells #[.int .i64 0,.int .i64 0,.slice none 0 0] 24)) n
 have L:=ad ((w.alloc (.cells #[.int .i64 r,.int .i64 c,.slice u n d] 24)).alloc (.cells #[.int .i64 0,.int .i64 0,.slice none 0 0] 24)) (.cells (madeCells #[.int .u64 0] n) 69)
 have x2:=Q.all L
 have ST:=ac (show nL w _ r c u n d from(nL.mk b0 Q).all L)
 have XR:=ac (x1.all L)
 rw[Z]at hm
 have HM:=ac hm
 have aa:=x2.c2
 clear KB L hm x2 b0 Q x1 Z hI hT hf
 go_enter Tryz.func121,Tryz.ntmps121
 go_wp2_with fail
 clear Y y2 aa
 go_loopw[15] (fun i wr=>∃k':Nat,k'≤n∧i=.int .i64 k'∧Hid (cf wr (w.heap.size+1+1) (uN f n k'))∧Hid (nL w wr r c u n d)∧Hid (aM wr (w.heap.size+1) (.int .i64 0) (.int .i64 0) (.slice none 0 0))) (fun i _=>n-(intOf i).toNat)
 case atStart=>exact⟨0,Nat.zero_le _,rfl,by rw[yL];exact HM,ST,XR⟩
 case round=>
  clear HM ST XR
  obtain⟨i,hi,rfl,J,A,U⟩:=hrel
  by_cases G:i<n
  ·have an:(i:Int)<(n:Int):=by omega
   have H:i<I.length:=by have:=uH HL;rw[aG]at this;omega
   obtain⟨b,ar,ah,X,am⟩:=mU ((uH HI).below (uH A).bel) H
   have hv:I.getD i 0<18446744073709551616:=by
    rw[←ev]
    exact(uH HI).lt i
   have K:=ac (fun F (X:Below w.heap.size w F)=>gT (I.getD i 0) k F hv ((uH HT).all X))
   have eF:=uH HF i G
   rw[eF]at K
   obtain⟨o,eo⟩:∃o,f i=o:=⟨_,rfl⟩
   rw[eo]at K
   have eV:=ac eo
   generalize I.getD i 0=x at*
   subst ah
   have y2:=(uH A).box.c2
   clear eo eF hv X H
   go_wp2_with fail
   clear y2 am
   refine(uH K _ (uH A).bel).mono ?_
   rintro e w3 ⟨rfl,D⟩
   have z:=(uH J).below D (uH J).lt
   have S2:=(uH A).all D
   have X2:=(uH U).all D
   have c0:=z.cell i (by rw[nY];exact G)
   have f0:=z.free i
   have R3:=ac (z.set i o)
   have S3:=ac (S2.set (g:=w.heap.size+1+1) (by omega) i (.int .u64 (o:Int)))
   have X3:=ac (X2.other (p:=⟨w.heap.size+1+1,i,none⟩) (by show w.heap.size+1≠w.heap.size+1+1;omega) (.int .u64 (o:Int)))
   clear D K J A U z S2 X2
   go_wp2_with fail
   go_round
   case rel=>exact⟨i+1,by omega,by go_num,by rw[←nZ,uH eV];exact R3,S3,X3⟩
   case measure=>simp[intOf];omega
  ·have ae:i=n:=by omega
   subst ae
   have y0:=(uH A).box.c0;have y1:=(uH A).box.c1
   have h:=uH U
   have Z:=h.c0;have s1:=h.c1;have s2:=h.c2
   have f0:=h.free 0;have f1:=h.free 1;have f2:=h.free 2
   have O:=h.put (.int .i64 (r:Nat)) (.int .i64 (c:Nat)) (.slice (some ⟨w.heap.size+1+1,0,none⟩) i i)
   have z0:=O.c0;have z1:=O.c1;have z2:=O.c2
   have RR:=ac ((uH J).three (g:=w.heap.size+1) (by omega) (.int .i64 (r:Nat)) (.int .i64 (c:Nat)) (.slice (some ⟨w.heap.size+1+1,0,none⟩) i i))
   have BP:=ac (aR (uH A).bel (b:=w.heap.size+1) (by omega) (.int .i64 (r:Nat)) (.int .i64 (c:Nat)) (.slice (some ⟨w.heap.size+1+1,0,none⟩) i i))
   clear O h U J A
   go_wp2_with fail
   exact bodyPost_ret (v:=.agg #[.int .i64 r,.int .i64 c,.slice (some ⟨w.heap.size+1+1,0,none⟩) i i]) (by simp[results,Tryz.results121,go_sem,z0,z1,z2]) rfl ⟨_,rfl,by omega,by rw[←lF];exact uH RR,uH BP⟩
theorem nC(r c d:Nat)(k:Int)(u:Option Addr)(S:List Nat)(w:World)(h:Mx w u d r c S)(A:cr w):
  Calls Tryz.prog 121 #[.agg #[.int .i64 r,.int .i64 c,.slice u S.length d],.int .i64 k] w fun e z=>∃g,e=.returned (.agg #[.int .i64 r,.int .i64 c,.slice (some ⟨g,0,none⟩) S.length S.length])∧w.heap.size≤g∧cf z g (d7 S k)∧Below w.heap.size w z:=
 xG r c S.length d k u S (fun i=>xV (S.getD i 0) k) w rfl h.small h.1 (fun _ _=>rfl) A
theorem xH(ao bo:Option Addr)(n c d g yy xx v1 v2 z v3 v4 v5 v6 v7 u0 v8 v9 G C s:Nat)(w:World)
  (D1:∀h,Below w.heap.size w h→Calls Tryz.prog 211 #[.slice bo n d,.slice bo n d] h fun e A=>e=.returned (.int .u64 (yy:Nat))∧Below h.heap.size h A)
  (D2:∀h,Below w.heap.size w h→Calls Tryz.prog 211 #[.slice ao n c,.slice ao n c] h fun e A=>e=.returned (.int .u64 (xx:Nat))∧Below h.heap.size h A)
  (A1:∀h,Below w.heap.size w h→Calls Tryz.prog 202 #[.int .u64 (yy:Nat),.int .u64 (xx:Nat)] h fun e A=>e=.returned (.int .u64 (v1:Nat))∧Below h.heap.size h A)
  (A2:∀h,Below w.heap.size w h→Calls Tryz.prog 217 #[.int .u64 (g:Nat),.int .u64 (g:Nat)] h fun e A=>e=.returned (.int .u64 (v2:Nat))∧Below h.heap.size h A)
  (A3:∀h,Below w.heap.size w h→Calls Tryz.prog 204 #[.int .u64 (v1:Nat),.int .u64 (v2:Nat)] h fun e A=>e=.returned (.int .u64 (z:Nat))∧Below h.heap.size h A)
  (A4:∀h,Below w.heap.size w h→Calls Tryz.prog 102 #[.int .u64 (z:Nat)] h fun e A=>e=.returned (.int .u64 (v3:Nat))∧Below h.heap.size h A)
  (A5:∀h,Below w.heap.size w h→Calls Tryz.prog 203 #[.int .u64 (z:Nat),.int .u64 (z:Nat)] h fun e A=>e=.returned (.int .u64 (v4:Nat))∧Below h.heap.size h A)
  (A6:∀h,Below w.heap.size w h→Calls Tryz.prog 217 #[.int .u64 4607182418800017408,.int .u64 (v4:Nat)] h fun e A=>e=.returned (.int .u64 (v5:Nat))∧Below h.heap.size h A)
  (A7:∀h,Below w.heap.size w h→Calls Tryz.prog 242 #[.int .u64 (v5:Nat)] h fun e A=>e=.returned (.int .u64 (v6:Nat))∧Below h.heap.size h A)
  (A8:∀h,Below w.heap.size w h→Calls Tryz.prog 217 #[.int .u64 (v3:Nat),.int .u64 (v6:Nat)] h fun e A=>e=.returned (.int .u64 (v7:Nat))∧Below h.heap.size h A)
  (A9:∀h,Below w.heap.size w h→Calls Tryz.prog 204 #[.int .u64 4607182418800017408,.int .u64 (v7:Nat)] h fun e A=>e=.returned (.int .u64 (u0:Nat))∧Below h.heap.size h A)
  (AA:∀h,Below w.heap.size w h→Calls Tryz.prog 161 #[.int .u64 (z:Nat)] h fun e A=>e=.returned (.bool false)∧Below h.heap.size h A)
  (AC:∀h,Below w.heap.size w h→Calls Tryz.prog 203 #[.int .u64 (u0:Nat),.int .u64 (u0:Nat)] h fun e A=>e=.returned (.int .u64 (v8:Nat))∧Below h.heap.size h A)
  (AD:∀h,Below w.heap.size w h→Calls Tryz.prog 217 #[.int .u64 4607182418800017408,.int .u64 (v8:Nat)] h fun e A=>e=.returned (.int .u64 (v9:Nat))∧Below h.heap.size h A)
  (AE:∀h,Below w.heap.size w h→Calls Tryz.prog 242 #[.int .u64 (v9:Nat)] h fun e A=>e=.returned (.int .u64 (G:Nat))∧Below h.heap.size h A)
  (AF:∀h,Below w.heap.size w h→Calls Tryz.prog 204 #[.int .u64 4607182418800017408,.int .u64 (G:Nat)] h fun e A=>e=.returned (.int .u64 (C:Nat))∧Below h.heap.size h A)
  (AG:∀h,Below w.heap.size w h→Calls Tryz.prog 203 #[.int .u64 (C:Nat),.int .u64 (u0:Nat)] h fun e A=>e=.returned (.int .u64 (s:Nat))∧Below h.heap.size h A):
  Calls Tryz.prog 212 #[.slice ao n c,.slice bo n d,.int .u64 g] w fun e h=>e=.returned (.tuple #[.int .u64 (C:Nat),.int .u64 (s:Nat)])∧Below w.heap.size w h:=by
 have u:=ac (Below.refl w.heap.size w)
 have H:=ac D1
 have I:=ac D2
 have J:=ac A1
 have K:=ac A2
 have L:=ac A3
 have O:=ac A4
 have Q:=ac A5
 have U:=ac A6
 have X:=ac A7
 have Y:=ac A8
 have Z:=ac A9
 have aa:=ac AA
 have ae:=ac AC
 have ah:=ac AD
 have am:=ac AE
 have an:=ac AF
 have ar:=ac AG
 clear D1 D2 A1 A2 A3 A4 A5 A6 A7 A8 A9 AA AC AD AE AF AG
 go_enter Tryz.func212,Tryz.ntmps212
 go_wp2_with fail
 refine(uH H _ (uH u)).mono ?_
 rintro e F ⟨rfl,D⟩
 replace u:=ac ((uH u).trans (D.mono (uH u).size))
 clear D H
 go_wp2_with fail
 refine(uH I _ (uH u)).mono ?_
 rintro e F ⟨rfl,D⟩
 replace u:=ac ((uH u).trans (D.mono (uH u).size))
 clear D I
 go_wp2_with fail
 refine(uH J _ (uH u)).mono ?_
 rintro e F ⟨rfl,D⟩
 replace u:=ac ((uH u).trans (D.mono (uH u).size))
 clear D J
 go_wp2_with fail
 refine(uH K _ (uH u)).mono ?_
 rintro e F ⟨rfl,D⟩
 replace u:=ac ((uH u).trans (D.mono (uH u).size))
 clear D K
 go_wp2_with fail
 refine(uH L _ (uH u)).mono ?_
 rintro e F ⟨rfl,D⟩
 replace u:=ac ((uH u).trans (D.mono (uH u).size))
 clear D L
 go_wp2_with fail
 refine(uH O _ (uH u)).mono ?_
 rintro e F ⟨rfl,D⟩
 replace u:=ac ((uH u).trans (D.mono (uH u).size))
 clear D O
 go_wp2_with fail
 refine(uH Q _ (uH u)).mono ?_
 rintro e F ⟨rfl,D⟩
 replace u:=ac ((uH u).trans (D.mono (uH u).size))
 clear D Q
 go_wp2_with fail
 refine(uH U _ (uH u)).mono ?_
 rintro e F ⟨rfl,D⟩
 replace u:=ac ((uH u).trans (D.mono (uH u).size))
 clear D U
 go_wp2_with fail
 refine(uH X _ (uH u)).mono ?_
 rintro e F ⟨rfl,D⟩
 replace u:=ac ((uH u).trans (D.mono (uH u).size))
 clear D X
 go_wp2_with fail
 refine(uH Y _ (uH u)).mono ?_
 rintro e F ⟨rfl,D⟩
 replace u:=ac ((uH u).trans (D.mono (uH u).size))
 clear D Y
 go_wp2_with fail
 refine(uH Z _ (uH u)).mono ?_
 rintro e F ⟨rfl,D⟩
 replace u:=ac ((uH u).trans (D.mono (uH u).size))
 clear D Z
 go_wp2_with fail
 refine(uH aa _ (uH u)).mono ?_
 rintro e F ⟨rfl,D⟩
 replace u:=ac ((uH u).trans (D.mono (uH u).size))
 clear D aa
 go_wp2_with fail
 refine(uH ae _ (uH u)).mono ?_
 rintro e F ⟨rfl,D⟩
 replace u:=ac ((uH u).trans (D.mono (uH u).size))
 clear D ae
 go_wp2_with fail
 refine(uH ah _ (uH u)).mono ?_
 rintro e F ⟨rfl,D⟩
 replace u:=ac ((uH u).trans (D.mono (uH u).size))
 clear D ah
 go_wp2_with fail
 refine(uH am _ (uH u)).mono ?_
 rintro e F ⟨rfl,D⟩
 replace u:=ac ((uH u).trans (D.mono (uH u).size))
 clear D am
 go_wp2_with fail
 refine(uH an _ (uH u)).mono ?_
 rintro e F ⟨rfl,D⟩
 replace u:=ac ((uH u).trans (D.mono (uH u).size))
 clear D an
 go_wp2_with fail
 refine(uH ar _ (uH u)).mono ?_
 rintro e F ⟨rfl,D⟩
 replace u:=ac ((uH u).trans (D.mono (uH u).size))
 clear D ar
 go_wp2_with fail
 exact bodyPost_ret (v:=.tuple #[.int .u64 (C:Nat),.int .u64 (s:Nat)]) (by simp[results,Tryz.results212,go_sem]) rfl ⟨rfl,uH u⟩
theorem xI(ao bo:Option Addr)(n c d g yy xx v1 v2 z v3 v4 v5 v6 v7 u0 t v8 v9 G C s:Nat)(w:World)
  (D1:∀h,Below w.heap.size w h→Calls Tryz.prog 211 #[.slice bo n d,.slice bo n d] h fun e u=>e=.returned (.int .u64 (yy:Nat))∧Below h.heap.size h u)
  (D2:∀h,Below w.heap.size w h→Calls Tryz.prog 211 #[.slice ao n c,.slice ao n c] h fun e u=>e=.returned (.int .u64 (xx:Nat))∧Below h.heap.size h u)
  (A1:∀h,Below w.heap.size w h→Calls Tryz.prog 202 #[.int .u64 (yy:Nat),.int .u64 (xx:Nat)] h fun e u=>e=.returned (.int .u64 (v1:Nat))∧Below h.heap.size h u)
  (A2:∀h,Below w.heap.size w h→Calls Tryz.prog 217 #[.int .u64 (g:Nat),.int .u64 (g:Nat)] h fun e u=>e=.returned (.int .u64 (v2:Nat))∧Below h.heap.size h u)
  (A3:∀h,Below w.heap.size w h→Calls Tryz.prog 204 #[.int .u64 (v1:Nat),.int .u64 (v2:Nat)] h fun e u=>e=.returned (.int .u64 (z:Nat))∧Below h.heap.size h u)
  (A4:∀h,Below w.heap.size w h→Calls Tryz.prog 102 #[.int .u64 (z:Nat)] h fun e u=>e=.returned (.int .u64 (v3:Nat))∧Below h.heap.size h u)
  (A5:∀h,Below w.heap.size w h→Calls Tryz.prog 203 #[.int .u64 (z:Nat),.int .u64 (z:Nat)] h fun e u=>e=.returned (.int .u64 (v4:Nat))∧Below h.heap.size h u)
  (A6:∀h,Below w.heap.size w h→Calls Tryz.prog 217 #[.int .u64 4607182418800017408,.int .u64 (v4:Nat)] h fun e u=>e=.returned (.int .u64 (v5:Nat))∧Below h.heap.size h u)
  (A7:∀h,Below w.heap.size w h→Calls Tryz.prog 242 #[.int .u64 (v5:Nat)] h fun e u=>e=.returned (.int .u64 (v6:Nat))∧Below h.heap.size h u)
  (A8:∀h,Below w.heap.size w h→Calls Tryz.prog 217 #[.int .u64 (v3:Nat),.int .u64 (v6:Nat)] h fun e u=>e=.returned (.int .u64 (v7:Nat))∧Below h.heap.size h u)
  (A9:∀h,Below w.heap.size w h→Calls Tryz.prog 204 #[.int .u64 4607182418800017408,.int .u64 (v7:Nat)] h fun e u=>e=.returned (.int .u64 (u0:Nat))∧Below h.heap.size h u)
  (AA:∀h,Below w.heap.size w h→Calls Tryz.prog 161 #[.int .u64 (z:Nat)] h fun e u=>e=.returned (.bool true)∧Below h.heap.size h u)
  (AB:∀h,Calls Tryz.prog 162 #[.int .u64 (u0:Nat)] h fun e u=>e=.returned (.int .u64 (t:Nat))∧h=u)
  (AC:∀h,Below w.heap.size w h→Calls Tryz.prog 203 #[.int .u64 (t:Nat),.int .u64 (t:Nat)] h fun e u=>e=.returned (.int .u64 (v8:Nat))∧Below h.heap.size h u)
  (AD:∀h,Below w.heap.size w h→Calls Tryz.prog 217 #[.int .u64 4607182418800017408,.int .u64 (v8:Nat)] h fun e u=>e=.returned (.int .u64 (v9:Nat))∧Below h.heap.size h u)
  (AE:∀h,Below w.heap.size w h→Calls Tryz.prog 242 #[.int .u64 (v9:Nat)] h fun e u=>e=.returned (.int .u64 (G:Nat))∧Below h.heap.size h u)
  (AF:∀h,Below w.heap.size w h→Calls Tryz.prog 204 #[.int .u64 4607182418800017408,.int .u64 (G:Nat)] h fun e u=>e=.returned (.int .u64 (C:Nat))∧Below h.heap.size h u)
  (AG:∀h,Below w.heap.size w h→Calls Tryz.prog 203 #[.int .u64 (C:Nat),.int .u64 (t:Nat)] h fun e u=>e=.returned (.int .u64 (s:Nat))∧Below h.heap.size h u):
  Calls Tryz.prog 212 #[.slice ao n c,.slice bo n d,.int .u64 g] w fun e h=>e=.returned (.tuple #[.int .u64 (C:Nat),.int .u64 (s:Nat)])∧Below w.heap.size w h:=by
 have A:=ac (Below.refl w.heap.size w)
 have H:=ac D1
 have I:=ac D2
 have J:=ac A1
 have K:=ac A2
 have L:=ac A3
 have O:=ac A4
 have Q:=ac A5
 have U:=ac A6
 have X:=ac A7
 have Y:=ac A8
 have Z:=ac A9
 have aa:=ac AA
 have ae:=ac AB
 have ah:=ac AC
 have am:=ac AD
 have an:=ac AE
 have ar:=ac AF
 have ax:=ac AG
 clear D1 D2 A1 A2 A3 A4 A5 A6 A7 A8 A9 AA AB AC AD AE AF AG
 go_enter Tryz.func212,Tryz.ntmps212
 go_wp2_with fail
 refine(uH H _ (uH A)).mono ?_
 rintro e F ⟨rfl,D⟩
 replace A:=ac ((uH A).trans (D.mono (uH A).size))
 clear D H
 go_wp2_with fail
 refine(uH I _ (uH A)).mono ?_
 rintro e F ⟨rfl,D⟩
 replace A:=ac ((uH A).trans (D.mono (uH A).size))
 clear D I
 go_wp2_with fail
 refine(uH J _ (uH A)).mono ?_
 rintro e F ⟨rfl,D⟩
 replace A:=ac ((uH A).trans (D.mono (uH A).size))
 clear D J
 go_wp2_with fail
 refine(uH K _ (uH A)).mono ?_
 rintro e F ⟨rfl,D⟩
 replace A:=ac ((uH A).trans (D.mono (uH A).size))
 clear D K
 go_wp2_with fail
 refine(uH L _ (uH A)).mono ?_
 rintro e F ⟨rfl,D⟩
 replace A:=ac ((uH A).trans (D.mono (uH A).size))
 clear D L
 go_wp2_with fail
 refine(uH O _ (uH A)).mono ?_
 rintro e F ⟨rfl,D⟩
 replace A:=ac ((uH A).trans (D.mono (uH A).size))
 clear D O
 go_wp2_with fail
 refine(uH Q _ (uH A)).mono ?_
 rintro e F ⟨rfl,D⟩
 replace A:=ac ((uH A).trans (D.mono (uH A).size))
 clear D Q
 go_wp2_with fail
 refine(uH U _ (uH A)).mono ?_
 rintro e F ⟨rfl,D⟩
 replace A:=ac ((uH A).trans (D.mono (uH A).size))
 clear D U
 go_wp2_with fail
 refine(uH X _ (uH A)).mono ?_
 rintro e F ⟨rfl,D⟩
 replace A:=ac ((uH A).trans (D.mono (uH A).size))
 clear D X
 go_wp2_with fail
 refine(uH Y _ (uH A)).mono ?_
 rintro e F ⟨rfl,D⟩
 replace A:=ac ((uH A).trans (D.mono (uH A).size))
 clear D Y
 go_wp2_with fail
 refine(uH Z _ (uH A)).mono ?_
 rintro e F ⟨rfl,D⟩
 replace A:=ac ((uH A).trans (D.mono (uH A).size))
 clear D Z
 go_wp2_with fail
 refine(uH aa _ (uH A)).mono ?_
 rintro e F ⟨rfl,D⟩
 replace A:=ac ((uH A).trans (D.mono (uH A).size))
 clear D aa
 go_wp2_with fail
 refine(uH ae _).mono ?_
 rintro e F ⟨rfl,rfl⟩
 clear ae
 go_wp2_with fail
 refine(uH ah _ (uH A)).mono ?_
 rintro e F ⟨rfl,D⟩
 replace A:=ac ((uH A).trans (D.mono (uH A).size))
 clear D ah
 go_wp2_with fail
 refine(uH am _ (uH A)).mono ?_
 rintro e F ⟨rfl,D⟩
 replace A:=ac ((uH A).trans (D.mono (uH A).size))
 clear D am
 go_wp2_with fail
 refine(uH an _ (uH A)).mono ?_
 rintro e F ⟨rfl,D⟩
 replace A:=ac ((uH A).trans (D.mono (uH A).size))
 clear D an
 go_wp2_with fail
 refine(uH ar _ (uH A)).mono ?_
 rintro e F ⟨rfl,D⟩
 replace A:=ac ((uH A).trans (D.mono (uH A).size))
 clear D ar
 go_wp2_with fail
 refine(uH ax _ (uH A)).mono ?_
 rintro e F ⟨rfl,D⟩
 replace A:=ac ((uH A).trans (D.mono (uH A).size))
 clear D ax
 go_wp2_with fail
 exact bodyPost_ret (v:=.tuple #[.int .u64 (C:Nat),.int .u64 (s:Nat)]) (by simp[results,Tryz.results212,go_sem]) rfl ⟨rfl,uH A⟩
theorem rf(v:Nat)(w:World)(d:v<18446744073709551616)(h:cr w):Calls Tryz.prog 217 #[.int .u64 4607182418800017408,.int .u64 (v:Nat)] w fun e u=>e=.returned (.int .u64 (aV 4607182418800017408 v:Nat))∧Below w.heap.size w u:=by
 have:=jG 4607182418800017408 v w (by decide) d h
 rwa[show((4607182418800017408:Nat):Int)=4607182418800017408 from rfl]at this
theorem rg(v:Nat)(w:World)(d:v<18446744073709551616)(h:cr w):Calls Tryz.prog 204 #[.int .u64 4607182418800017408,.int .u64 (v:Nat)] w fun e u=>e=.returned (.int .u64 (dV 4607182418800017408 v:Nat))∧Below w.heap.size w u:=by
 have:=uX 4607182418800017408 v w (by decide) d h
 rwa[show((4607182418800017408:Nat):Int)=4607182418800017408 from rfl]at this
theorem EL(w:World)(F:cr w):∀t,t<18446744073709551616→∃u D A,(∀d,Below w.heap.size w d→Calls Tryz.prog 203 #[.int .u64 (t:Nat),.int .u64 (t:Nat)] d fun e h=>e=.returned (.int .u64 (u:Nat))∧Below d.heap.size d h)∧(∀d,Below w.heap.size w d→Calls Tryz.prog 217 #[.int .u64 4607182418800017408,.int .u64 (u:Nat)] d fun e h=>e=.returned (.int .u64 (D:Nat))∧Below d.heap.size d h)∧(∀d,Below w.heap.size w d→Calls Tryz.prog 242 #[.int .u64 (D:Nat)] d fun e h=>e=.returned (.int .u64 (A:Nat))∧Below d.heap.size d h)∧(∀d,Below w.heap.size w d→Calls Tryz.prog 204 #[.int .u64 4607182418800017408,.int .u64 (A:Nat)] d fun e h=>e=.returned (.int .u64 (sv t:Nat))∧Below d.heap.size d h)∧(∀d,Below w.heap.size w d→Calls Tryz.prog 203 #[.int .u64 (sv t:Nat),.int .u64 (t:Nat)] d fun e h=>e=.returned (.int .u64 (qu t:Nat))∧Below d.heap.size d h):=by
 intro t I
 have G:(4607182418800017408:Nat)<18446744073709551616:=by decide
 have J:sv t=dV 4607182418800017408 (sV (aV 4607182418800017408 (mV t t))):=rfl
 have K:qu t=mV (sv t) t:=rfl
 have L:=EI t
 have H:=df t t
 refine⟨mV t t,aV 4607182418800017408 (mV t t),sV (aV 4607182418800017408 (mV t t)),fun d z=>fk t t d I I (F.all z),?_,?_,?_,?_⟩
 ·generalize mV t t=u at*
  exact fun d z=>rf u d H (F.all z)
 ·generalize mV t t=u at*
  have k2:=h9 4607182418800017408 u G H
  generalize aV 4607182418800017408 u=D at*
  exact fun d z=>qZ D d k2 (F.all z)
 ·rw[J]
  generalize mV t t=u at*
  have k2:=h9 4607182418800017408 u G H
  generalize aV 4607182418800017408 u=D at*
  have O:=yB D k2
  generalize sV D=A at*
  exact fun d z=>rg A d O (F.all z)
 ·rw[K]
  generalize sv t=C at*
  exact fun d z=>fk C t d L I (F.all z)
theorem xJ(G H:Option Addr)(c d g:Nat)(I J:List Int)(w:World)(hI:ak w G c I)(hJ:ak w H d J)(h:I.length=J.length)(h6:I.length≤64)(hg:g<18446744073709551616)(F:cr w):
  Calls Tryz.prog 212 #[.slice G I.length c,.slice H I.length d,.int .u64 g] w fun e u=>e=.returned (.tuple #[.int .u64 (sv (Jg (MH (mO I I I.length) (mO J J I.length) g)):Nat),.int .u64 (qu (Jg (MH (mO I I I.length) (mO J J I.length) g)):Nat)])∧Below w.heap.size w u:=by
 have aa:(4607182418800017408:Nat)<18446744073709551616:=by decide
 have D1:∀u,Below w.heap.size w u→Calls Tryz.prog 211 #[.slice H I.length d,.slice H I.length d] u fun e A=>e=.returned (.int .u64 (mO J J I.length:Nat))∧Below u.heap.size u A:=fun u D=>by
  have:=mX H H d d J J u (hJ.below D) (hJ.below D) rfl (by omega) (F.all D)
  rwa[←h]at this
 have D2:∀u,Below w.heap.size w u→Calls Tryz.prog 211 #[.slice G I.length c,.slice G I.length c] u fun e A=>e=.returned (.int .u64 (mO I I I.length:Nat))∧Below u.heap.size u A:=fun u D=>
  mX G G c c I I u (hI.below D) (hI.below D) rfl h6 (F.all D)
 have ae:=kJ J J I.length
 have ah:=kJ I I I.length
 generalize mO J J I.length=L at*
 generalize mO I I I.length=O at*
 have A1:∀u,Below w.heap.size w u→Calls Tryz.prog 202 #[.int .u64 (L:Nat),.int .u64 (O:Nat)] u fun e A=>e=.returned (.int .u64 (aV L (fN O):Nat))∧Below u.heap.size u A:=fun u D=>uW L O u ae ah (F.all D)
 have A2:∀u,Below w.heap.size w u→Calls Tryz.prog 217 #[.int .u64 (g:Nat),.int .u64 (g:Nat)] u fun e A=>e=.returned (.int .u64 (aV g g:Nat))∧Below u.heap.size u A:=fun u D=>jG g g u hg hg (F.all D)
 have l1:=h9 L (fN O) ae (oD _ ah)
 have l2:=h9 g g hg hg
 unfold MH
 generalize aV L (fN O)=Q at*
 generalize aV g g=U at*
 have A3:∀u,Below w.heap.size w u→Calls Tryz.prog 204 #[.int .u64 (Q:Nat),.int .u64 (U:Nat)] u fun e A=>e=.returned (.int .u64 (dV Q U:Nat))∧Below u.heap.size u A:=fun u D=>uX Q U u l1 l2 (F.all D)
 have hz:=yu Q U
 generalize dV Q U=z at*
 have hu:=Lk z
 have hU:vd z=dV 4607182418800017408 (aV (fR z) (sV (aV 4607182418800017408 (mV z z)))):=rfl
 have A4:∀u,Below w.heap.size w u→Calls Tryz.prog 102 #[.int .u64 (z:Nat)] u fun e A=>e=.returned (.int .u64 (fR z:Nat))∧Below u.heap.size u A:=fun u D=>lE z u hz
 have A5:∀u,Below w.heap.size w u→Calls Tryz.prog 203 #[.int .u64 (z:Nat),.int .u64 (z:Nat)] u fun e A=>e=.returned (.int .u64 (mV z z:Nat))∧Below u.heap.size u A:=fun u D=>fk z z u hz hz (F.all D)
 have l3:fR z<18446744073709551616:=by unfold fR;omega
 have l4:=df z z
 generalize fR z=X at*
 generalize mV z z=Y at*
 have A6:∀u,Below w.heap.size w u→Calls Tryz.prog 217 #[.int .u64 4607182418800017408,.int .u64 (Y:Nat)] u fun e A=>e=.returned (.int .u64 (aV 4607182418800017408 Y:Nat))∧Below u.heap.size u A:=fun u D=>rf Y u l4 (F.all D)
 have l5:=h9 4607182418800017408 Y aa l4
 generalize aV 4607182418800017408 Y=Z at*
 have A7:∀u,Below w.heap.size w u→Calls Tryz.prog 242 #[.int .u64 (Z:Nat)] u fun e A=>e=.returned (.int .u64 (sV Z:Nat))∧Below u.heap.size u A:=fun u D=>qZ Z u l5 (F.all D)
 have l6:=yB Z l5
 generalize sV Z=v6 at*
 have A8:∀u,Below w.heap.size w u→Calls Tryz.prog 217 #[.int .u64 (X:Nat),.int .u64 (v6:Nat)] u fun e A=>e=.returned (.int .u64 (aV X v6:Nat))∧Below u.heap.size u A:=fun u D=>jG X v6 u l3 l6 (F.all D)
 have l7:=h9 X v6 l3 l6
 generalize aV X v6=v7 at*
 have A9:∀u,Below w.heap.size w u→Calls Tryz.prog 204 #[.int .u64 4607182418800017408,.int .u64 (v7:Nat)] u fun e A=>e=.returned (.int .u64 (dV 4607182418800017408 v7:Nat))∧Below u.heap.size u A:=fun u D=>rg v7 u l7 (F.all D)
 rw[←hU]at A9
 have AA:∀u,Below w.heap.size w u→Calls Tryz.prog 161 #[.int .u64 (z:Nat)] u fun e A=>e=.returned (.bool (fS z))∧Below u.heap.size u A:=fun u D=>eE z u hz
 clear hU aa l1 l2 l3 l4 l5 l6 l7
 unfold Jg
 generalize vd z=u0 at*
 cases hs:fS z with
 |false=>
  rw[hs]at AA
  simp only[Bool.false_eq_true,if_false]
  obtain⟨v8,v9,K,B1,B2,B3,B4,B5⟩:=EL w F u0 hu
  exact xH G H I.length c d g L O Q U z X Y Z v6 v7 u0 v8 v9 K (sv u0) (qu u0) w D1 D2 A1 A2 A3 A4 A5 A6 A7 A8 A9 AA B1 B2 B3 B4 B5
 |true=>
  rw[hs]at AA
  simp only[if_true]
  obtain⟨v8,v9,K,B1,B2,B3,B4,B5⟩:=EL w F (fN u0) (oD _ hu)
  exact xI G H I.length c d g L O Q U z X Y Z v6 v7 u0 (fN u0) v8 v9 K (sv (fN u0)) (qu (fN u0)) w D1 D2 A1 A2 A3 A4 A5 A6 A7 A8 A9 AA (fun u=>fU u0 u hu) B1 B2 B3 B4 B5
end Go.Proofs.YtcbcmlaogehimaaGreatDoor
