/- Part 25 of the texts. -/
import Derived.Test.YtcbcmlaogehimaaGreatDoorPartu24
set_option maxHeartbeats 4000000
set_option maxRecDepth 20000
namespace Go.Proofs.YtcbcmlaogehimaaGreatDoor
open Go.RowKit
def aX(S:H3):List Int:=S.map (fun x:Nat=>(x:Int))
theorem aC(S:H3):(aX S).length=S.length:=by simp[aX]
theorem fW(S:H3)(j:Nat):bg (aX S) j=S.getD j 0:=by
 unfold aX bg;rw[List.getElem?_map,List.getD_eq_getElem?_getD]
 cases S[j]? <;>simp
theorem xu{w:World}{ao:GY}{c:Nat}{I:List Int}(h:ag w ao c I):aX (cq I)=I:=DB h
theorem ag.nat{w:World}{ao:GY}{c:Nat}{S:H3}(h:ag w ao c (aX S)):∀x∈S,x<18446744073709551616:=by
 intro x l;have:=h.2.1 (x:Int) (List.mem_map.2 ⟨x,l,rfl⟩);omega
theorem ag.none(w:World)(c:Nat):ag w .none c (aX []):=⟨by simp[aX],by simp[aX],.inl rfl⟩
theorem ag.nilAt(w:World)(ao:GY)(c:Nat):ag w ao c (aX []):=⟨by simp[aX],by simp[aX],.inl rfl⟩
theorem ag.putM{w:World}{ao:GY}{c:Nat}{I:List Int}(h:ag w ao c I){g:Nat}{x y:Int}{a:GY}{n d:Nat}(H:aE w g (C0 x) (C0 y) (.slice a n d))(u u' u'':Value):
  ag (((w.setCell ⟨g,0,.none⟩ u).setCell ⟨g,1,.none⟩ u').setCell ⟨g,2,.none⟩ u'') ao c I:=by
 refine⟨h.1,h.2.1,?_⟩;rcases h.2.2 with L|⟨b,l,M,N,G⟩
 ·exact .inl L
 ·by_cases F:I= []
  ·exact .inl F
  ·have K:0<I.length:=List.length_pos_iff.2 F
   have t:b≠g:=by
    rintro rfl;have D:=G 0 K;rw[cell_of_row w b (l+0) _ _ _ H]at D;rcases(show l=0\/l=1\/l=2\/3<=l by omega)with e|e|e|e
    ·subst e;simp at D
    ·subst e;simp at D
    ·subst e;simp at D
    ·rw[Array.getElem?_eq_none (by simp;omega)]at D;simp at D
   refine .inr ⟨b,l,M,by simpa[World.setCell]using N,fun i J=>?_⟩;rw[au _ _ _ _ (by simpa using t),au _ _ _ _ (by simpa using t),au _ _ _ _ (by simpa using t)];exact G i J
def Mx(w:World)(ao:GY)(cap r c:Nat)(S:H3):Prop:=ag w ao cap (aX S)/\S.length=r*c/\r<=6/\c<=6
theorem Mx.below{w l:World}{ao:GY}{cap r c:Nat}{S:H3}(h:Mx w ao cap r c S)(t:H8 w l):Mx l ao cap r c S:=⟨h.1.below t,h.2⟩
theorem Mx.small{w:World}{ao:GY}{cap r c:Nat}{S:H3}(h:Mx w ao cap r c S):S.length<=36:=by
 rw[h.2.1];exact Nat.mul_le_mul h.2.2.1 h.2.2.2
theorem Mx.el_lt{w:World}{ao:GY}{cap r c:Nat}{S:H3}(h:Mx w ao cap r c S)(i k:Nat):a8 c S i k<18446744073709551616:=by
 unfold a8;rw[List.getD_eq_getElem?_getD]
 by_cases g:i*c+k<S.length
 ·rw[List.getElem?_eq_getElem g];exact h.1.nat _ (List.getElem_mem g)
 ·rw[List.getElem?_eq_none (by omega)];decide
theorem Mx.cells{w:World}{ao:GY}{cap r c:Nat}{S:H3}(h:Mx w ao cap r c S){i k:Nat}(D:i<r)(F:k<c):∃b l,ao=some ⟨b,l,.none⟩/\b<w.heap.size/\w.cell? ⟨b,l+(i*c+k),.none⟩=some (CI (a8 c S i k:Nat))/\i*c+k<S.length:=by
 have t:i*c+k<S.length:=by rw[h.2.1];exact dK D F
 obtain⟨b,l,G,H,I⟩:=h.1.ne (by rw[aC];omega);refine⟨b,l,G,H,?_,t⟩;rw[I _ (by rw[aC];exact t),fW];rfl
theorem pw{w:World}{ao:GY}{cap r c:Nat}{S:H3}(h:Mx w ao cap r c S):kx (r:Int) (c:Int) S.length=true:=by
 refine decide_eq_true ⟨⟨by omega,?_,by omega,?_⟩,?_⟩
 ·have:=h.2.2.1;omega
 ·have:=h.2.2.2;omega
 ·rw[h.2.1];simp
theorem Mx.of{w:World}{ao:GY}{cap:Nat}{I:List Int}{r c:Int}(h:ag w ao cap I)(l:kx r c I.length=true):∃p q:Nat,r=(p:Int)/\c=(q:Int)/\Mx w ao cap p q (cq I)/\aX (cq I)=I:=by
 obtain⟨⟨t,F,D,G⟩,H⟩:=of_decide_eq_true l;obtain⟨p,rfl⟩:=Int.eq_ofNat_of_zero_le t;obtain⟨q,rfl⟩:=Int.eq_ofNat_of_zero_le D;refine⟨p,q,rfl,rfl,⟨by rw[xu h];exact h,?_,by omega,by omega⟩,xu h⟩;rw[rL];have:((p*q:Nat):Int)=(p:Int)*(q:Int):=by simp
 omega
def bO(H:Nat)(w':World)(r c:Nat)(S:H3)(v:Value):Prop:=∃ao cap,v=.agg #[C0 r,C0 c,.slice ao S.length cap]/\dw H ao (aX S)/\ag w' ao cap (aX S)
theorem bO.zero(H:Nat)(w:World):bO H w 0 0 [] (.agg #[C0 0,C0 0,.slice .none 0 0]):=⟨.none,0,rfl,.inl rfl,ag.none w 0⟩
theorem bO.least{H t:Nat}{w:World}{r c:Nat}{S:H3}{v:Value}(h:bO H w r c S v)(D:t<=H):bO t w r c S v:=by
 obtain⟨ao,cap,F,G,I⟩:=h;refine⟨ao,cap,F,?_,I⟩;rcases G with e|⟨b,l,J,K⟩
 ·exact .inl e
 ·exact .inr ⟨b,l,J,Nat.le_trans D K⟩
attribute [local go_sem ↓] Go.wp_at_zero Go.wp_at_succ
theorem OE(r c n cap b h i k q x:Nat)(w:World)(H:(i:Int)*(c:Int)=(q:Int))(D:q+k<n)(I:n<=36)
  (t:w.cell? ⟨b,h+(q+k),none⟩=some (CI (x:Nat))):
  BS 133 #[.agg #[C0 r,C0 c,.slice (some ⟨b,h,none⟩) n cap],C0 i,C0 k] w (CI (x:Nat)):=by
 have l:=ac (ad w (.cells #[C0 r,C0 c,.slice (some ⟨b,h,none⟩) n cap] 24));have J:=ay t (uH l);clear t;have G:(q:Int)+(k:Int)<(n:Int):=by omega
 go_enter Tryz.func133,Tryz.ntmps133
 go_wp2
 go_ret
 exact⟨rfl,uH l⟩
theorem ch(i c:Nat):(i:Int)*(c:Int)=((i*c:Nat):Int):=by simp
theorem Bw(r c cap i k:Nat)(ao:GY)(S:H3)(w:World)(h:Mx w ao cap r c S)(t:i<r)(D:k<c):
  BS 133 #[.agg #[C0 r,C0 c,.slice ao S.length cap],C0 i,C0 k] w (CI (a8 c S i k:Nat)):=by
 obtain⟨b,l,rfl,I,G,H⟩:=h.cells t D;exact OE r c S.length cap b l i k (i*c) _ w (ch i c) H h.small G
def uV(c:Nat)(S:H3)(i:Nat):H3:=(List.range c).map (fun k=>a8 c S i k)
theorem mc(c:Nat)(S:H3)(i:Nat):(uV c S i).length=c:=by simp[uV]
theorem zP(c:Nat)(S:H3)(i k:Nat)(h:k<c):(uV c S i).getD k 0=a8 c S i k:=by simp[uV,List.getD_eq_getElem?_getD,h]
theorem OG(r c n cap i q p:Nat)(ao:GY)(w:World)(H:(i:Int)*(c:Int)=(q:Int))(I:((i:Int)+1)*(c:Int)=(p:Int))(t:q<=p)(D:p<=n)(F:n<=cap)(J:n<=36)(K:i<=6):
  BS 137 #[.agg #[C0 r,C0 c,.slice ao n cap],C0 i] w (.slice (if cap=q then ao else ao.map (·.add (q*1))) (p-q) (cap-q)):=by
 have l:=ac (ad w (.cells #[C0 r,C0 c,.slice ao n cap] 24))
 by_cases h:cap=q
 ·subst h
  rw[if_pos rfl]
  go_enter Tryz.func137,Tryz.ntmps137
  go_wp2
  go_ret
  exact⟨by simp,uH l⟩
 ·rw[if_neg h]
  go_enter Tryz.func137,Tryz.ntmps137
  go_wp2
  go_ret
  exact⟨by simp,uH l⟩
theorem xw{w G:World}{ao:GY}{cap r c:Nat}{S:H3}(h:Mx w ao cap r c S)(H:H8 w G){i:Nat}(t:i<r):ag G (if cap=i*c then ao else ao.map (·.add (i*c*1))) (cap-i*c) (aX (uV c S i)):=by
 have L:(i+1)*c<=S.length:=by rw[h.2.1];exact Nat.mul_le_mul_right c t
 rw[Nat.add_mul,Nat.one_mul]at L;have M:=h.1.1;rw[aC]at M;refine⟨by rw[aC,mc];omega,?_,?_⟩
 ·intro x U
  obtain⟨y,N,rfl⟩:=List.mem_map.1 U;obtain⟨k,_,rfl⟩:=List.mem_map.1 N;have:=h.el_lt i k;omega
 ·rcases Nat.eq_zero_or_pos c with e|e
  ·subst e;exact .inl rfl
  ·obtain⟨b,D,I,O,Z,e4⟩:=(h.below H).cells t e
   refine .inr ⟨b,D+i*c,?_,O,fun k K=>?_⟩
   ·rw[if_neg (by omega),I]
    simp[Addr.add]
   ·have l:k<c:=by rwa[aC,mc]at K
    obtain⟨b',J,F,f2,Q,f4⟩:=(h.below H).cells t l;rw[I]at F;simp only[Option.some.injEq,Addr.mk.injEq]at F;obtain⟨rfl,rfl,_⟩:=F;rw[Nat.add_assoc,Q]
    simp[aX,uV,l]
theorem Bx(r c cap i:Nat)(ao:GY)(S:H3)(w:World)(h:Mx w ao cap r c S)(t:i<r):
  GF 137 #[.agg #[C0 r,C0 c,.slice ao S.length cap],C0 i] w fun e l=>∃D d,e=.returned (.slice D c d)/\ag l D d (aX (uV c S i))/\H8 w l:=by
 have H:(i+1)*c<=S.length:=by rw[h.2.1];exact Nat.mul_le_mul_right c t
 have I:i*c<=(i+1)*c:=Nat.mul_le_mul_right c (by omega);have F:=h.1.1;rw[aC]at F;have J:=h.2.2.1;refine(OG r c S.length cap i (i*c) ((i+1)*c) ao w (ch i c) (by simp) I H F h.small (by omega)).mono ?_;rintro e l ⟨rfl,G⟩;rw[show(i+1)*c-i*c=c by rw[Nat.add_mul,Nat.one_mul];omega];exact⟨_,_,rfl,xw h G t,G⟩
theorem dw.least{H t:Nat}{ao:GY}{I:List Int}(h:dw H ao I)(D:t<=H):dw t ao I:=by
 rcases h with e|⟨b,l,F,G⟩
 ·exact .inl e
 ·exact .inr ⟨b,l,F,Nat.le_trans D G⟩
theorem cT.newB{l:Nat}{w:World}{ao:GY}{n cap:Nat}{S:H3}(h:cT l w (.slice ao n cap) S):dw l ao (aX S):=by
 rcases h.1.2 with⟨_,F⟩|⟨g,t,G,D,H,_⟩
 ·exact .inl (by rw[List.length_eq_zero_iff.1 F];rfl)
 ·simp only[Value.slice.injEq]at D
  exact .inr ⟨g,0,D.1,H⟩
theorem me(fn:Nat)(N:Array Value)(r c:Nat)(f:Nat->Nat->Nat)(w:World)
  (bc:∀args w,(callFunc fn args).run Tryz.prog w=.ok (.enter fn args) w) (hr:r<=6) (hc:c<=6) (hf:∀i k,i<r->k<c->f i k<18446744073709551616)
  (D:∀J i k,H8 w J->i<r->k<c->GF fn (#[C0 (i:Nat),C0 (k:Nat)]++N) J fun e a3=>e=.returned (CI (f i k:Nat))/\H8 J a3):
  GF 131 #[C0 r,C0 c,.func (.func fn) #[] N] w fun e J=>∃v,e=.returned v/\bO w.heap.size J r c (kZ r c f) v/\H8 w J:=by
 obtain⟨i0,a6,a7,a9,ba⟩:=info_parts og;have HS:=ac D;have HF:=ac hf;have hm:(r:Int)*(c:Int)=((r*c:Nat):Int):=ch r c;have bd:r*c<=36:=Nat.mul_le_mul hr hc;have X0:=ac (aE.new w (C0 0) (C0 0) (.slice none 0 0));have B0:=ac (ad w (.cells #[C0 0,C0 0,.slice none 0 0] 24));obtain⟨w1,bb,U,am⟩:=run_make_own (P:=Tryz.prog) (w.alloc (.cells #[C0 0,C0 0,.slice none 0 0] 24)) (w.heap.size+1) 22 69 i0 (CI 0) 1 Tryz.underlying22 a6 a7 a9 .i64 .i64 (r*c) (by rw[ba];omega) (by unfold maxLen;omega) (by simp);have B1:=ac ((uH B0).grown am (by simp) (fun g hg=>by cases hg));have X1:aE w1 w.heap.size (C0 0) (C0 0) (.slice none 0 0):=(uH X0).grown am (by simp);have O1:=ac (show cT (w.heap.size+1) w1 (.slice (some ⟨w.heap.size+1,0,none⟩) 0 (r*c)) (kX (fun p=>f (p/c) (p%c)) (0*c))from⟨by rw[Nat.zero_mul];simpa[kX]using U,by rw[Nat.zero_mul];intro x hx;cases hx⟩);have ap:=ac X1;clear U am X0 B0 X1;obtain⟨F,hF⟩:∃F:Nat->Nat,F=fun p=>f (p/c) (p%c):=⟨_,rfl⟩
 rw[<-hF]at O1;have FV:=ac (show∀j k,k<c->F (j*c+k)=f j k from fun j k hk=>by rw[hF];show f ((j*c+k)/c) ((j*c+k)%c)=_;rw[jV hk,jW hk]);have FM:=ac (show kZ r c f=kX F (r*c)from by rw[hF];rfl);rw[uH FM];generalize a2:r*c=n at*;have ax:=ac a2;clear a2 D hf hF
 go_enter Tryz.func131,Tryz.ntmps131
 go_wp2_with fail;clear bb
 go_loopw[7,15] (fun v i wr=>∃j:Nat,j<=r/\i=.int .i64 j/\Hid (cT (w.heap.size+1) wr v (kX F (j*c)))/\Hid (aE wr w.heap.size (C0 0) (C0 0) (.slice none 0 0))/\Hid (H8 w wr)) (fun _ i _=>r-(intOf i).toNat)
 case atStart=>exact⟨0,Nat.zero_le _,rfl,O1,ap,B1⟩
 case round=>
  clear O1 ap B1;obtain⟨j,hj,rfl,t,l,I⟩:=hrel
  by_cases ae:j<r
  ·have be:(j:Int)<(r:Int):=by omega
   have K:=ac (show cT (w.heap.size+1) wr _ (kX F (j*c+0))from uH t);clear t;go_wp2_with fail
   go_loopw[7,19] (fun v i wr=>∃k:Nat,k<=c/\i=.int .i64 k/\Hid (cT (w.heap.size+1) wr v (kX F (j*c+k)))/\Hid (aE wr w.heap.size (C0 0) (C0 0) (.slice none 0 0))/\Hid (H8 w wr)) (fun _ i _=>c-(intOf i).toNat)
   case atStart=>exact⟨0,Nat.zero_le _,rfl,K,l,I⟩
   case round=>
    clear K l I;obtain⟨k,hk,rfl,t,l,I⟩:=hrel
    by_cases L:k<c
    ·have bi:(k:Int)<(c:Int):=by omega
     have C:=ac (fun J h=>uH HS J j k h ae L);have ho:=ac (uH HF j k ae L);have eo:=ac (uH FV j k L);have O:=ac (show(kX F (j*c+k)).length<=1000000 from by
      rw[iT];have:=dK ae L;rw[uH ax]at this;omega)
     generalize f j k=o at*;go_wp2_with fail;refine(uH C _ I.out).mono ?_;rintro e w2 ⟨rfl,M⟩;have Q:=(uH t).below M;have G:=(uH l).all M;have B2:=I.out.trans (M.mono I.out.size);obtain⟨v3,w3,Z,aa,H,_,_⟩:=Q.push o (uH ho) (uH O) (by have:=G.lt;omega) 22;have aI:=ac Z;have O3:=ac (show cT (w.heap.size+1) w3 v3 (kX F (j*c+(k+1)))from by
      rw[<-Nat.add_assoc,oh,uH eo];exact aa)
     have X3:=ac (G.below H (by omega));have B3:=ac (B2.trans (H.mono (by omega)));clear M C t l I Q G B2 Z aa H ho eo O
     go_wp2_with(at_builtin;refine du _ rfl _ _ 22 rfl _ _ _ _ rfl rfl (uH aI) ?_;clear aI)
     go_round
     case rel=>exact⟨k+1,by omega,by go_num,O3,X3,B3⟩
     case measure=>simp[intOf];omega
    ·have a4:k=c:=by omega
     subst a4;have K:=ac (show cT (w.heap.size+1) _ _ (kX F ((j+1)*k))from by rw[Nat.add_mul,Nat.one_mul];exact uH t);clear t;go_wp2_with fail
     go_round
     case rel=>exact⟨j+1,by omega,by go_num,K,l,I⟩
     case measure=>simp[intOf];omega
  ·have a5:j=r:=by omega
   subst a5;rw[uH ax]at t;obtain⟨b1,d1,e1,q1⟩:=(uH t).bits;have a0:=(uH t).1;rw[iT]at e1;subst e1;have a1:=ac ((uH t).newB.least (Nat.le_succ w.heap.size));have s0:=(uH l).c0;have s1:=(uH l).c1;have s2:=(uH l).c2;have f0:=(uH l).free 0;have f1:=(uH l).free 1;have f2:=(uH l).free 2;have XP:=(uH l).put (C0 j) (C0 c) (.slice b1 n d1);have z0:=XP.c0;have z1:=XP.c1;have z2:=XP.c2;have QP:=ac (q1.putM (uH l) (C0 j) (C0 c) (.slice b1 n d1));have BP:=ac (az (uH I) (Nat.le_refl _) (C0 j) (C0 c) (.slice b1 n d1));clear q1 a0 t l I XP
   go_wp2
   exact bodyPost_ret (v:=.agg #[C0 j,C0 c,.slice b1 n d1]) (by simp[results,Tryz.results131,go_sem,z0,z1,z2]) rfl ⟨_,rfl,⟨b1,d1,by rw[iT],uH a1,uH QP⟩,uH BP⟩
end Go.Proofs.YtcbcmlaogehimaaGreatDoor
namespace Go.Proofs.YtcbcmlaogehimaaGreatDoor
open Go.RowKit
def GK(w:World)(g:Nat):Prop:=∃cur e,w.heap[g]? =some (.cells cur e (0,0))/\∀u∈cur.toList,kY u=true
theorem GK.limbs{w:World}{g:Nat}(h:GK w g){ao:GY}{cap:Nat}{L:H3}(l:ai w ao cap L)(j:Nat)(u:Value):ai (w.setCell ⟨g,j,none⟩ u) ao cap L:=by
 refine⟨l.1,l.2.1,?_⟩;have H:jU w (.slice (some ⟨g,0,none⟩) 0 0):=fun k F=>by cases F;exact h
 rcases H.limbs l with e|⟨b,D,I,J,K,M⟩
 ·exact .inl e
 ·have t:b≠g:=fun e=>K (by rw[e];rfl)
  refine .inr ⟨b,D,I,by simpa[World.setCell]using J,fun i G=>?_⟩;rw[au _ _ _ _ (show b≠g from t)];exact M i G
theorem GK.num{B:Nat}{w:World}{g:Nat}(h:GK w g){v:Value}{z:Int}(l:aA B w v z)(j:Nat)(u:Value):aA B (w.setCell ⟨g,j,none⟩ u) v z:=by
 obtain⟨neg,ao,cap,L,t,D,F⟩:=l;exact⟨neg,ao,cap,L,t,h.limbs D j u,F⟩
theorem GK.lv{w:World}{g:Nat}(h:GK w g){v:Value}{lo z:Int}(l:aN w v lo z)(j:Nat)(u:Value):aN (w.setCell ⟨g,j,none⟩ u) v lo z:=by
 obtain⟨neg,ao,cap,L,t,D⟩:=l;exact⟨neg,ao,cap,L,t,h.num D j u⟩
theorem ar.clr{w:World}{b:Nat}{x:Bool}{a:GY}{n c:Nat}{y:Int}(h:ar w b (.bool x) (.slice a n c) (C0 y)):GK w b:=
 ⟨_,_,h,fun u l=>by simp at l;rcases l with rfl|rfl|rfl<;>rfl⟩
theorem GK.set{w:World}{g:Nat}(h:GK w g)(k j:Nat){u:Value}(H:kY u=true):GK (w.setCell ⟨k,j,none⟩ u) g:=by
 obtain⟨t,e,F,G⟩:=h
 by_cases D:g=k
 ·subst D
  refine⟨_,e,heap_setCell_same w g j _ _ u F,fun x l=>?_⟩;rw[Array.toList_setIfInBounds]at l;rcases List.mem_or_eq_of_mem_set l with l|rfl
  ·exact G x l
  ·exact H
 ·exact⟨t,e,(Below.heap_setCell w ⟨k,j,none⟩ u g D).trans F,G⟩
structure Dn where
 neg:Bool
 ao:GY
 len:Nat
 cap:Nat
 e:Int
def Dn.v(x:Dn):Value:=.agg #[.bool x.neg,.slice x.ao x.len x.cap,C0 x.e]
def Dn.cs(x:Dn):List Value:=[.bool x.neg,.slice x.ao x.len x.cap,C0 x.e]
def oj(D:List Dn)(k:Nat):Dn:=D[k]?.getD ⟨false,none,0,0,0⟩
theorem GL:∀(D:List Dn) (k:Nat),k<D.length->(D.flatMap Dn.cs)[k*3]? =some (.bool (oj D k).neg)/\(D.flatMap Dn.cs)[k*3+1]? =some (.slice (oj D k).ao (oj D k).len (oj D k).cap)/\(D.flatMap Dn.cs)[k*3+2]? =some (C0 (oj D k).e)
 |x::D,0,_=>by simp[oj,Dn.cs]
 |x::D,k+1,h=>by
  have:=GL D k (by simpa using h);have e:(x::D).flatMap Dn.cs=.bool x.neg::.slice x.ao x.len x.cap::.int .i64 x.e::D.flatMap Dn.cs:=rfl;rw[e,show(k+1)*3=k*3+1+1+1 by omega]
  simpa[oj]using this
def iF(base:Nat)(w:World)(v:Value)(n:Nat)(lo:Int)(f:Nat->Int):Prop:=
 ∃D:List Dn,D.length=n/\w.ownsRow base 35 3 v n (D.flatMap Dn.cs)/\jU w v/\∀k,k<n->aN w (oj D k).v lo (f k)
theorem iF.below{l:Nat}{w G:World}{v:Value}{n:Nat}{lo:Int}{f:Nat->Int}(h:iF l w v n lo f)(t:H8 w G):iF l G v n lo f:=by
 obtain⟨D,H,I,J,K⟩:=h;exact⟨D,H,I.kept (row:=none) ⟨t.os,t.tape,t.output,t.size,fun k F _=>t.block k F⟩ (by cases hv:v.ownBlock<;>simp),J.below t,fun k F=>(K k F).below t⟩
theorem iF.set{l:Nat}{w:World}{v:Value}{n:Nat}{lo:Int}{f:Nat->Int}(h:iF l w v n lo f){g:Nat}(J:GK w g)(U:g<l)(j:Nat)(u:Value):iF l (w.setCell ⟨g,j,none⟩ u) v n lo f:=by
 obtain⟨D,K,H,L,M⟩:=h;have G:∀k,v.ownBlock=some k->k≠g:=fun k t=>by have:=(H.lt k t).1;omega
 refine⟨D,K,⟨H.1,?_⟩,?_,fun k t=>J.lv (M k t) j u⟩
 ·rcases H.2 with e|⟨k,cap,F,I,t,Q,rest⟩
  ·exact .inl e
  ·exact .inr ⟨k,cap,F,I,t,(Below.heap_setCell w ⟨g,j,none⟩ u k (G k (by rw[I];rfl))).trans Q,rest⟩
 ·intro k t
  obtain⟨F,e,N,O⟩:=L k t;exact⟨F,e,(Below.heap_setCell w ⟨g,j,none⟩ u k (G k t)).trans N,O⟩
theorem OH:(Tryz.prog.info? 35).map (fun i=>(i.zero,i.size,i.bytes))=some (some (.agg #[.bool false,.slice none 0 0,C0 0]),3,40):=by kernel_rfl
theorem iF.push{l:Nat}{W:World}{v:Value}{n:Nat}{lo:Int}{f:Nat->Int}(h:iF l W v n lo f)(B:Nat)(x:Dn)(hx:aN W x.v lo (f n))(hc:W.heap[B]? =some (.cells #[.bool x.neg,.slice x.ao x.len x.cap,C0 x.e] 35 (0,0)))(hn:n<=1000000)(hb:l<=W.heap.size)(Q:TypeId):
  ∃F G H,(Builtin.append_ #[78,78] Q #[v,.slice (some ⟨B,0,none⟩) 1 1]).run Tryz.prog W=.ok (.slice F (n+1) G) H/\(iF l H (.slice F (n+1) G) (n+1) lo f/\W.grownBy H v.ownBlock):=by
 obtain⟨i0,hi,K,L,M⟩:=info_parts OH;obtain⟨D,U,h2,N,h4⟩:=h;obtain⟨v',H,e1,Z,O,e4,e5⟩:=oZ (P:=Tryz.prog) W l 78 Q 35 i0 (.agg #[.bool false,.slice none 0 0,C0 0]) 3 40 Tryz.underlying78 hi K L M rfl (by decide) v n (D.flatMap Dn.cs) h2 ⟨B,0,none⟩ 1 1 (Dn.cs x) rfl
  (fun j u t=>by
   rw[show(⟨B,0,none⟩:Addr).add j=⟨B,j,none⟩ by unfold Addr.add;split<;>simp_all,cell_of_row W B j _ _ _ hc]
   simpa[Dn.cs]using t)
  (fun u t=>by simp[Dn.cs]at t;rcases t with rfl|rfl|rfl<;>rfl) (by unfold maxLen;omega) (by omega) hb (by omega) N
  (fun u t=>by simp[Value.cells]at t;rcases t with rfl|rfl|rfl<;>rfl) (fun u t=>by simp[Dn.cs]at t;rcases t with rfl|rfl|rfl<;>rfl)
 have I:∃F G,v'=.slice F (n+1) G:=by
  rcases Z.2 with⟨_,e⟩|⟨g,cap,aa,I,_⟩
  ·omega
  ·exact⟨_,_,I⟩
 obtain⟨F,G,rfl⟩:=I;refine⟨F,G,H,e1,⟨D++[x],by simp[U],by simpa using Z,e5,fun k hk=>?_⟩,O⟩
 by_cases J:k<n
 ·have:oj (D++[x]) k=oj D k:=by unfold oj;rw[List.getElem?_append_left (by omega)]
  rw[this];exact(h4 k J).grownClear N O
 ·obtain rfl:k=n:=by omega
  have:oj (D++[x]) k=x:=by unfold oj;rw[<-U,List.getElem?_append_right (Nat.le_refl _)];simp
  rw[this];exact hx.grownClear N O
def Bz(w:World)(ao:GY)(cap n:Nat)(lo:Int)(f:Nat->Int):Prop:=
 n<=cap/\(n=0\/∃b off,ao=some ⟨b,off,none⟩/\b<w.heap.size/\∀k,k<n->∃x:Dn,w.cell? ⟨b,off+k*3,none⟩=some (.bool x.neg)/\w.cell? ⟨b,off+k*3+1,none⟩=some (.slice x.ao x.len x.cap)/\w.cell? ⟨b,off+k*3+2,none⟩=some (C0 x.e)/\aN w x.v lo (f k))
theorem iF.dys{l:Nat}{w:World}{v:Value}{n:Nat}{lo:Int}{f:Nat->Int}(h:iF l w v n lo f):∃ao cap,v=.slice ao n cap/\Bz w ao cap n lo f:=by
 obtain⟨D,U,L,Z,M⟩:=h;rcases L.2 with⟨F,J⟩|⟨g,cap,N,F,hg,t,O,hm,hs,Q⟩
 ·exact⟨none,0,by rw[F,J],by omega,.inl J⟩
 ·refine⟨some ⟨g,0,none⟩,cap,F,O,.inr ⟨g,0,rfl,(Array.getElem?_eq_some_iff.1 t).1,fun k K=>⟨oj D k,?_⟩⟩⟩
  obtain⟨G,H,I⟩:=GL D k (by omega);rw[<-Q,List.getElem?_take,if_pos (by omega),Array.getElem?_toList]at G H I;rw[cell_of_row w g _ _ _ _ t,cell_of_row w g _ _ _ _ t,cell_of_row w g _ _ _ _ t,Nat.zero_add];exact⟨G,H,I,M k K⟩
attribute [local go_sem ↓] Go.wp_at_zero Go.wp_at_succ
def OI(w:World)(g k:Nat)(R C:Nat->Int)(A:Nat->GY)(N P:Nat->Nat):Prop:=
 ∀i,i<k->w.cell? ⟨g,i*3,none⟩=some (C0 (R i))/\w.cell? ⟨g,i*3+1,none⟩=some (C0 (C i))/\w.cell? ⟨g,i*3+2,none⟩=some (.slice (A i) (N i) (P i))
theorem xy(k g:Nat)(R C:Nat->Int)(A:Nat->GY)(N P:Nat->Nat)(w:World)(hk:k<=2)(O:∀i,i<k->N i<=35184372088830)(Q:OI w g k R C A N P):
  GF 130 #[.slice (some ⟨g,0,none⟩) k k] w fun e H=>∃b,e=.returned (.bool b)/\(b=true↔∀i,i<k->kx (R i) (C i) (N i)=true)/\H8 w H:=by
 have HM:=ac Q;have HN:=ac O;clear Q O
 go_enter Tryz.func130,Tryz.ntmps130
 go_wp2_with fail
 go_loopw[7] (fun i wr=>∃j:Nat,j<=k/\i=.int .i64 j/\Hid (H8 w wr)/\Hid (∀t,t<j->kx (R t) (C t) (N t)=true)) (fun i _=>k-(intOf i).toNat)
 case atStart=>exact⟨0,Nat.zero_le _,rfl,Below.refl _ _,fun t h=>by omega⟩
 case round=>
  obtain⟨j,hj,rfl,F,hO⟩:=hrel
  by_cases D:j<k
  ·have aa:(j:Int)<(k:Int):=by omega
   obtain⟨M,c1,c2⟩:=uH HM j D;have U:=uH HN j D;have Z:=ac (fun H=>mW (R j) (C j) (A j) (N j) (P j) H U);have l:=World.block_lt_of_cell? w _ M;have I:=ac (F.out.mono (Nat.le_refl _));have d0:wr.cell? ⟨g,j*3,none⟩=some (C0 (R j)):=by rw[F.out.cell (p:=⟨g,j*3,none⟩) l];exact M
   have d1:wr.cell? ⟨g,j*3+1,none⟩=some (C0 (C j)):=by rw[F.out.cell (p:=⟨g,j*3+1,none⟩) l];exact c1
   have d2:wr.cell? ⟨g,j*3+2,none⟩=some (.slice (A j) (N j) (P j)):=by rw[F.out.cell (p:=⟨g,j*3+2,none⟩) l];exact c2
   have J:=ac ((uH I).alloc (uH I).size (.cells #[C0 (R j),C0 (C j),.slice (A j) (N j) (P j)] 24));clear M c1 c2 U F I l;go_wp2_with fail;refine(uH Z _).mono ?_;rintro e w2 ⟨rfl,G⟩;have B2:Hid (H8 w w2):=(uH J).trans (G.mono (uH J).size);clear Z G d0 d1 d2 J
   cases ho:kx (R j) (C j) (N j)
   ·have K:=ac ho
    clear ho;rw[if_neg (by decide)]
    go_wp2
    go_ret
    refine⟨false,rfl,⟨(fun h=>nomatch h),fun h=>?_⟩,uH B2⟩;have:=h j D;rw[uH K]at this
    cases this
   ·have K:=ac ho
    clear ho;rw[if_pos rfl]
    go_wp2
    go_round
    case rel=>
     refine⟨j+1,by omega,by go_num,B2,ac fun t ht=>?_⟩
     by_cases e:t=j
     ·subst e;exact uH K
     ·exact hO.out t (by omega)
    case measure=>simp[intOf];omega
  ·have L:j=k:=by omega
   subst L
   go_wp2
   go_ret
   exact⟨true,rfl,⟨fun _=>hO.out,fun _=>rfl⟩,F.out⟩
theorem kr(r c:Int)(ao:GY)(n cap:Nat)(w:World)(D:n<=35184372088830):
  GF 130 #[.slice (some ⟨w.heap.size,0,none⟩) 1 1] (w.alloc (.cells #[C0 r,C0 c,.slice ao n cap] 24)) fun e l=>e=.returned (.bool (kx r c n))/\H8 w l:=by
 have X:=aE.new w (C0 r) (C0 c) (.slice ao n cap);have B:=ad w (.cells #[C0 r,C0 c,.slice ao n cap] 24);refine(xy 1 w.heap.size (fun _=>r) (fun _=>c) (fun _=>ao) (fun _=>n) (fun _=>cap) _ (by omega) (fun _ _=>D) ?_).mono ?_
 ·intro i G
  obtain rfl:i=0:=by omega
  exact⟨X.c0,X.c1,X.c2⟩
 ·rintro e l ⟨b,rfl,t,F⟩
  refine⟨?_,B.trans (F.mono B.size)⟩;have:b=kx r c n:=by
   cases h:kx r c n
   ·cases b
    ·rfl
    ·have:=t.1 rfl 0 (by omega);rw[h]at this;cases this
   ·exact t.2 (fun _ _=>h)
  rw[this]
theorem zQ(r c:Int)(ao:GY)(n cap:Nat)(p q:Int)(l:GY)(m d:Nat)(w:World)(K:n<=35184372088830)(L:m<=35184372088830):
  GF 130 #[.slice (some ⟨w.heap.size,0,none⟩) 2 2] (w.alloc (.cells #[C0 r,C0 c,.slice ao n cap,C0 p,C0 q,.slice l m d] 24)) fun e D=>e=.returned (.bool (kx r c n&&kx p q m))/\H8 w D:=by
 have X:(w.alloc (.cells #[C0 r,C0 c,.slice ao n cap,C0 p,C0 q,.slice l m d] 24)).heap[w.heap.size]? =some (.cells #[C0 r,C0 c,.slice ao n cap,C0 p,C0 q,.slice l m d] 24 (0,0)):=heap_alloc_new w _;have B:=ad w (.cells #[C0 r,C0 c,.slice ao n cap,C0 p,C0 q,.slice l m d] 24);refine(xy 2 w.heap.size (fun i=>if i=0 then r else p) (fun i=>if i=0 then c else q) (fun i=>if i=0 then ao else l) (fun i=>if i=0 then n else m) (fun i=>if i=0 then cap else d) _ (by omega) (fun i _=>by split<;>assumption) ?_).mono ?_
 ·intro i I
  rcases(show i=0\/i=1 by omega)with rfl|rfl
  ·exact⟨by rw[cell_of_row _ _ _ _ _ _ X];rfl,by rw[cell_of_row _ _ _ _ _ _ X];rfl,by rw[cell_of_row _ _ _ _ _ _ X];rfl⟩
  ·exact⟨by rw[cell_of_row _ _ _ _ _ _ X];rfl,by rw[cell_of_row _ _ _ _ _ _ X];rfl,by rw[cell_of_row _ _ _ _ _ _ X];rfl⟩
 ·rintro e D ⟨b,rfl,t,J⟩
  refine⟨?_,B.trans (J.mono B.size)⟩;have:b=(kx r c n&&kx p q m):=by
   cases h:(kx r c n&&kx p q m)
   ·cases b
    ·rfl
    ·have F:=t.1 rfl 0 (by omega)
     have G:=t.1 rfl 1 (by omega);simp only[if_true,Nat.one_ne_zero,if_false]at F G;rw[F,G]at h
     cases h
   ·have H:=Bool.and_eq_true_iff.1 h
    refine t.2 (fun i I=>?_);rcases(show i=0\/i=1 by omega)with rfl|rfl
    ·exact H.1
    ·exact H.2
  rw[this]
theorem xz(f p e:Int)(w:World)(D:-9223372036854775808<=f/\f<=9223372036854775807)(F:0<=e/\e<=6):
  GF 153 #[C0 f,C0 p,C0 e] w fun x l=>x=.returned (.bool (decide (0<=f/\0<=p/\p<=e-f)))/\w=l:=by
 rcases(show f<0\/(0<=f/\p<0)\/(0<=f/\0<=p) by omega)with h|⟨h,t⟩|⟨h,t⟩
 ·rw[decide_eq_false (by omega)]
  go_enter Tryz.func153,Tryz.ntmps153
  go_wp2
  go_ret
  exact⟨rfl,rfl⟩
 ·rw[decide_eq_false (by omega)]
  go_enter Tryz.func153,Tryz.ntmps153
  go_wp2
  go_ret
  exact⟨rfl,rfl⟩
 ·rw[show decide (0<=f/\0<=p/\p<=e-f)=decide (p<=e-f)from decide_eq_decide.2 (by omega)]
  go_enter Tryz.func153,Tryz.ntmps153
  go_wp2
  go_ret
  exact⟨rfl,rfl⟩
theorem zR(r c n cap i k x D:Nat)(ao:GY)(w:World)(h:aE w D (C0 r) (C0 c) (.slice ao n cap))
  (C:BS 133 #[.agg #[C0 r,C0 c,.slice ao n cap],C0 k,C0 i] w (CI (x:Nat))):
  BS 183 #[C0 i,C0 k,.pointer (some ⟨D,0,none⟩)] w (CI (x:Nat)):=by
 have K:=ac C;have F:=h.c0;have G:=h.c1;have p2:=h.c2;clear C h
 go_enter Tryz.func183,Tryz.ntmps183
 go_wp2_with fail;refine Calls.mono (uH K) ?_;rintro e H ⟨rfl,t⟩;clear K
 go_wp2
 go_ret
 exact⟨rfl,t⟩
theorem DC(args:Array Value)(w:World):(callFunc 183 args).run Tryz.prog w=.ok (.enter 183 args) w:=by
 simp only[callFunc,go_sem];rfl
theorem DD(r c n cap p q:Nat)(ao:GY)(S:H3)(w:World)
  (C:GF 131 #[C0 c,C0 r,.func (.func 183) #[] #[.pointer (some ⟨w.heap.size,0,none⟩)]] ((w.alloc (.cells #[C0 r,C0 c,.slice ao n cap] 24)).alloc (.cells #[C0 0,C0 0,.slice none 0 0] 24)) fun e l=>∃v,e=.returned v/\bO w.heap.size l p q S v/\H8 w l/\aE l (w.heap.size+1) (C0 0) (C0 0) (.slice none 0 0)):
  GF 134 #[.agg #[C0 r,C0 c,.slice ao n cap]] w fun e l=>∃v,e=.returned v/\bO w.heap.size l p q S v/\H8 w l:=by
 have K:=ac C;clear C
 go_enter Tryz.func134,Tryz.ntmps134
 go_wp2_with fail;refine Calls.mono (uH K) ?_;rintro e Z ⟨v,rfl,⟨t,d,rfl,I,G⟩,D,h⟩;have J:=h.free 0;have L:=h.free 1;have M:=h.free 2;have F:=h.put (C0 p) (C0 q) (.slice t S.length d);have H:=F.c0;have z1:=F.c1;have z2:=F.c2;have N:=h.c0;have O:=h.c1;have U:=h.c2;have Q:=ac (G.putM h (C0 p) (C0 q) (.slice t S.length d));have B:=ac (az D (b:=w.heap.size+1) (by omega) (C0 p) (C0 q) (.slice t S.length d));clear K F G D h
 go_wp2
 exact bodyPost_ret (v:=.agg #[C0 p,C0 q,.slice t S.length d]) (by simp[results,Tryz.results134,go_sem,H,z1,z2]) rfl ⟨_,rfl,⟨t,d,rfl,I,uH Q⟩,uH B⟩
theorem rM(r c cap:Nat)(ao:GY)(S:H3)(w:World)(h:Mx w ao cap r c S):
  GF 134 #[.agg #[C0 r,C0 c,.slice ao S.length cap]] w fun e l=>∃v,e=.returned v/\bO w.heap.size l c r (sG r c S) v/\H8 w l:=by
 refine DD r c S.length cap c r ao (sG r c S) w ?_;have H:=ad w (.cells #[C0 r,C0 c,.slice ao S.length cap] 24);have L:=aE.new w (C0 r) (C0 c) (.slice ao S.length cap);have M:=an w (.cells #[C0 r,C0 c,.slice ao S.length cap] 24);generalize w.alloc (.cells #[C0 r,C0 c,.slice ao S.length cap] 24)=G at*;have I:=ad G (.cells #[C0 0,C0 0,.slice none 0 0] 24);have J:=aE.new G (C0 0) (C0 0) (.slice none 0 0);have N:=L.all I;generalize G.alloc (.cells #[C0 0,C0 0,.slice none 0 0] 24)=K at*;have t:H8 w K:=H.trans (I.mono H.size);rw[M]at J;refine Calls.mono (me 183 #[.pointer (some ⟨w.heap.size,0,none⟩)] c r (fun k i=>a8 c S i k) K DC h.2.2.2 h.2.2.1 (fun k i _ _=>h.el_lt i k) ?_) ?_
 ·intro l k i D O Q
  have F:H8 w l:=t.trans (D.mono t.size);exact zR r c S.length cap k i _ w.heap.size ao l (N.all D) (Bw r c cap i k ao S l (h.below F) Q O)
 ·rintro e l ⟨v,rfl,U,D⟩
  exact⟨v,rfl,U.least t.size,t.trans (D.mono t.size),J.all D⟩
theorem zS(w:World)(x y z:Value)(l:World)(h:Below (w.heap.size+1) (w.alloc (.cells #[x,y,z] 24)) l):
  Below w.heap.size w l/\aE l w.heap.size x y z:=by
 have t:=ad w (.cells #[x,y,z] 24);exact⟨t.trans (h.mono (by omega)),(aE.new w x y z).below h (by omega)⟩
theorem jf(w:World)(x y z t D F:Value)(l:World)(h:Below (w.heap.size+1+1) ((w.alloc (.cells #[x,y,z] 24)).alloc (.cells #[t,D,F] 24)) l):
  Below w.heap.size w l/\aE l w.heap.size x y z/\aE l (w.heap.size+1) t D F:=by
 have G:=an w (.cells #[x,y,z] 24);have J:Below ((w.alloc (.cells #[x,y,z] 24)).heap.size+1) ((w.alloc (.cells #[x,y,z] 24)).alloc (.cells #[t,D,F] 24)) l:=by rw[G];exact h
 obtain⟨H,I⟩:=zS _ t D F l J;rw[G]at H I;obtain⟨K,L⟩:=zS w x y z l H;exact⟨K,L,I⟩
theorem zT(w:World)(x y z t D F G H z2:Value)(l:World)(h:Below (w.heap.size+1+1+1) (((w.alloc (.cells #[x,y,z] 24)).alloc (.cells #[t,D,F] 24)).alloc (.cells #[G,H,z2] 24)) l):
  Below w.heap.size w l/\aE l w.heap.size x y z/\aE l (w.heap.size+1) t D F/\aE l (w.heap.size+1+1) G H z2:=by
 have I:=an w (.cells #[x,y,z] 24);have M:Below ((w.alloc (.cells #[x,y,z] 24)).heap.size+1+1) (((w.alloc (.cells #[x,y,z] 24)).alloc (.cells #[t,D,F] 24)).alloc (.cells #[G,H,z2] 24)) l:=by rw[I];exact h
 obtain⟨J,K,L⟩:=jf _ t D F G H z2 l M;rw[I]at J K L;obtain⟨N,O⟩:=zS w x y z l J;exact⟨N,O,K,L⟩
theorem Qm(r c:Int)(ao:GY)(n cap:Nat)(w:World)(I:n<=35184372088830)(h:kx r c n=false):
  GF 103 #[.agg #[C0 r,C0 c,.slice ao n cap]] w fun e F=>∃v,e=.returned (.tuple #[v,C0 1])/\bO w.heap.size F 0 0 [] v/\H8 w F:=by
 have K:=ac (kr r c ao n cap ((w.alloc (.cells #[C0 r,C0 c,.slice ao n cap] 24)).alloc (.cells #[C0 0,C0 0,.slice none 0 0] 24)) I);rw[h]at K;(try unfold BS at K);(try unfold H8 at K);simp only[an]at K;have G:=ac (jf w (C0 r) (C0 c) (.slice ao n cap) (C0 0) (C0 0) (.slice none 0 0));clear h
 go_enter Tryz.func103,Tryz.ntmps103
 go_wp2_with fail;refine Calls.mono (uH K) ?_;rintro e N ⟨rfl,t⟩;obtain⟨H,M,l⟩:=uH G N t;clear K G t M;have O:=l.free 0;have Q:=l.free 1;have U:=l.free 2;have Z:=l.c0;have s1:=l.c1;have s2:=l.c2;have D:=l.put (C0 0) (C0 0) (.slice none 0 0);have J:=D.c0;have z1:=D.c1;have z2:=D.c2;have L:=ac (az H (b:=w.heap.size+1) (by omega) (C0 0) (C0 0) (.slice none 0 0));clear D l H
 go_wp2
 exact bodyPost_ret (v:=.tuple #[.agg #[C0 0,C0 0,.slice none 0 0],C0 1]) (by simp[results,Tryz.results103,go_sem,J,z1,z2]) rfl ⟨_,rfl,bO.zero _ _,uH L⟩
theorem GM(r c:Int)(ao:GY)(n cap x y:Nat)(S:H3)(w:World)(hn:n<=35184372088830)(h:kx r c n=true)
  (C:∀D,H8 w D->GF 134 #[.agg #[C0 r,C0 c,.slice ao n cap]] D fun e l=>∃v,e=.returned v/\bO D.heap.size l x y S v/\H8 D l):
  GF 103 #[.agg #[C0 r,C0 c,.slice ao n cap]] w fun e N=>∃v,e=.returned (.tuple #[v,C0 0])/\bO w.heap.size N x y S v/\H8 w N:=by
 have K:=ac (kr r c ao n cap ((w.alloc (.cells #[C0 r,C0 c,.slice ao n cap] 24)).alloc (.cells #[C0 0,C0 0,.slice none 0 0] 24)) hn);rw[h]at K;(try unfold BS at K);(try unfold H8 at K);simp only[an]at K;have O:=ac (jf w (C0 r) (C0 c) (.slice ao n cap) (C0 0) (C0 0) (.slice none 0 0));have U:=ac (fun D (F:H8 w D) (t:aE D (w.heap.size+1) (C0 0) (C0 0) (.slice none 0 0))=>(C D F).mono (R':=fun e l=>∃v,e=.returned v/\bO w.heap.size l x y S v/\H8 w l/\aE l (w.heap.size+1) (C0 0) (C0 0) (.slice none 0 0)) (by
  rintro e l ⟨v,rfl,h1,h2⟩;exact⟨v,rfl,h1.least F.size,F.trans (h2.mono F.size),t.all h2⟩))
 clear h C
 go_enter Tryz.func103,Tryz.ntmps103
 go_wp2_with fail;refine Calls.mono (uH K) ?_;rintro e D ⟨rfl,G⟩;obtain⟨F,M,t⟩:=uH O D G;have p0:=M.c0;have p1:=M.c1;have p2:=M.c2;have Z:=ac (uH U D F t);clear K O U G M t F;go_wp2_with fail;refine Calls.mono (uH Z) ?_;clear Z;rintro e w2 ⟨v,rfl,⟨H,I,rfl,n1,q1⟩,J,t⟩;have f0:=t.free 0;have f1:=t.free 1;have f2:=t.free 2;have L:=t.put (C0 x) (C0 y) (.slice H S.length I);have z0:=L.c0;have z1:=L.c1;have z2:=L.c2;have s0:=t.c0;have s1:=t.c1;have s2:=t.c2;have Q:=ac (q1.putM t (C0 x) (C0 y) (.slice H S.length I));have BP:=ac (az J (b:=w.heap.size+1) (by omega) (C0 x) (C0 y) (.slice H S.length I));clear L q1 J t
 go_wp2
 exact bodyPost_ret (v:=.tuple #[.agg #[C0 x,C0 y,.slice H S.length I],C0 0]) (by simp[results,Tryz.results103,go_sem,z0,z1,z2]) rfl ⟨_,rfl,⟨H,I,rfl,n1,uH Q⟩,uH BP⟩
theorem zU(i k:Nat)(w:World):
  BS 231 #[C0 i,C0 k] w (CI (0:Nat)):=by
 go_enter Tryz.func231,Tryz.ntmps231
 go_wp2
 go_ret
 exact⟨rfl,Below.refl _ _⟩
theorem GN(i k:Nat)(w:World):
  BS 209 #[C0 i,C0 k] w (CI ((if k=i then 4607182418800017408 else 0:Nat):Int)):=by
 by_cases h:k=i
 ·rw[if_pos h]
  subst h
  go_enter Tryz.func209,Tryz.ntmps209
  go_wp2
  go_ret
  exact⟨rfl,Below.refl _ _⟩
 ·rw[if_neg h]
  have t:decide ((i:Int)=(k:Int))=false:=decide_eq_false (by omega)
  go_enter Tryz.func209,Tryz.ntmps209
  go_wp2
  go_ret
  exact⟨rfl,Below.refl _ _⟩
theorem GO(r c n cap i k a b x D F bk:Nat)(ao:GY)(w:World)(G:a+i<=6)(H:b+k<=6)(h:aE w D (C0 r) (C0 c) (.slice ao n cap))(I:w.cell? ⟨F,0,none⟩=some (C0 (a:Nat)))(J:w.cell? ⟨bk,0,none⟩=some (C0 (b:Nat)))
  (C:BS 133 #[.agg #[C0 r,C0 c,.slice ao n cap],C0 ((a:Int)+(i:Int)),C0 ((b:Int)+(k:Int))] w (CI (x:Nat))):
  BS 154 #[C0 i,C0 k,.pointer (some ⟨D,0,none⟩),.pointer (some ⟨F,0,none⟩),.pointer (some ⟨bk,0,none⟩)] w (CI (x:Nat)):=by
 have K:=ac C;have L:=h.c0;have M:=h.c1;have p2:=h.c2;clear C h
 go_enter Tryz.func154,Tryz.ntmps154
 go_wp2_with fail;refine Calls.mono (uH K) ?_;rintro e N ⟨rfl,t⟩;clear K
 go_wp2
 go_ret
 exact⟨rfl,t⟩
theorem KU(r c n cap p q m d i k x G H:Nat)(ao K:GY)(U V:List Int)(w:World)(M:aE w G (C0 r) (C0 c) (.slice ao n cap))(N:aE w H (C0 p) (C0 q) (.slice K m d))
  (C1:∀l,H8 w l->GF 137 #[.agg #[C0 r,C0 c,.slice ao n cap],C0 i] l fun e t=>∃D F,e=.returned (.slice D c F)/\ag t D F U/\H8 l t)
  (C2:∀l,H8 w l->GF 137 #[.agg #[C0 p,C0 q,.slice K m d],C0 k] l fun e t=>∃D F,e=.returned (.slice D q F)/\ag t D F V/\H8 l t)
  (C3:∀l D F O Q,H8 w l->ag l D F U->ag l O Q V->BS 136 #[.slice D c F,.slice O q Q] l (.tuple #[CI (x:Nat),C0 0])):
  BS 135 #[C0 i,C0 k,.pointer (some ⟨G,0,none⟩),.pointer (some ⟨H,0,none⟩)] w (CI (x:Nat)):=by
 have K1:=ac C1;have K2:=ac C2;have K3:=ac C3;have HK:=ac (fun l (h:H8 w l)=>(show H8 w l/\(l.cell? ⟨G,0,none⟩=some (C0 r)/\l.cell? ⟨G,1,none⟩=some (C0 c)/\l.cell? ⟨G,2,none⟩=some (.slice ao n cap))/\(l.cell? ⟨H,0,none⟩=some (C0 p)/\l.cell? ⟨H,1,none⟩=some (C0 q)/\l.cell? ⟨H,2,none⟩=some (.slice K m d))from
  ⟨h,⟨(M.all h).c0,(M.all h).c1,(M.all h).c2⟩,(N.all h).c0,(N.all h).c1,(N.all h).c2⟩))
 clear C1 C2 C3 M N
 go_enter Tryz.func135,Tryz.ntmps135
 go_wp2_with fail
 go_region_held3(fun l=>H8 w l/\(l.cell? ⟨G,0,none⟩=some (C0 r)/\l.cell? ⟨G,1,none⟩=some (C0 c)/\l.cell? ⟨G,2,none⟩=some (.slice ao n cap))/\(l.cell? ⟨H,0,none⟩=some (C0 p)/\l.cell? ⟨H,1,none⟩=some (C0 q)/\l.cell? ⟨H,2,none⟩=some (.slice K m d)))
  (first|exact uH HK _ (Below.refl _ _).drew|exact uH HK _ (by assumption)|fail "KK")
  (first|(go_at_call_of 137 (Value.agg #[C0 r,C0 c,.slice ao n cap]);refine(uH K1 _ (And.left (by assumption))).mono ?_;rintro e w1 ⟨D,F,rfl,hu,I⟩;have aa:H8 w w1:=Below.trans (And.left (by assumption)) (I.mono (Below.size (And.left (by assumption))));have Z:=ac hu;(first|(have HV:=ac ((uH HV).below I))|skip);clear I hu K1)|(go_at_call_of 137 (Value.agg #[C0 p,C0 q,.slice K m d]);refine(uH K2 _ (And.left (by assumption))).mono ?_;rintro e w2 ⟨O,Q,rfl,hv,J⟩;have ae:H8 w w2:=Below.trans (And.left (by assumption)) (J.mono (Below.size (And.left (by assumption))));have HV:=ac hv;(first|(have Z:=ac ((uH Z).below J))|skip);clear J hv K2)|(go_at_call 136;refine(uH K3 _ _ _ _ _ (And.left (by assumption)) (uH Z) (uH HV)).mono ?_;rintro e w3 ⟨rfl,L⟩;have am:H8 w w3:=Below.trans (And.left (by assumption)) (L.mono (Below.size (And.left (by assumption))));clear L)|fail "NO ARM")
 all_goals
  go_wp2
  go_ret
  exact⟨rfl,And.left (by assumption)⟩
end Go.Proofs.YtcbcmlaogehimaaGreatDoor
