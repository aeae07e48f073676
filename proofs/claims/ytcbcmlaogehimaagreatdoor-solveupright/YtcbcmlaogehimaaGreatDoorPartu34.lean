/- Part 34 of the texts. -/
import Derived.Test.YtcbcmlaogehimaaGreatDoorPartu33
set_option maxHeartbeats 32000000
set_option maxRecDepth 20000
namespace Go.Proofs.YtcbcmlaogehimaaGreatDoor
open Go.RowKit
def IJ(T:Nat->Nat->Nat)(X:Nat->Nat)(dn:Nat->Nat->Bool)(i s:Nat):Nat->Nat
 |0=>s
 |k+1=>if dn i k=true then aV (IJ T X dn i s k) (fN (mV (T i k) (X k)))else IJ T X dn i s k
def Re(X:Nat->Nat)(i x:Nat):Nat->Nat:=fun k=>if k=i then x else X k
def DY(n:Nat)(T:Nat->Nat->Nat)(b:Nat->Nat)(o:Nat->Nat)(dn:Nat->Nat->Bool):Nat->Nat->Nat
 |0=>fun _=>0
 |m+1=>Re (DY n T b o dn m) (o m) (dV (IJ T (DY n T b o dn m) dn (o m) (b (o m)) n) (T (o m) (o m)))
def QQ(n:Nat)(T:Nat->Nat->Nat)(b:Nat->Nat)(o:Nat->Nat)(dn:Nat->Nat->Bool)(m:Nat):Nat:=dV (IJ T (DY n T b o dn m) dn (o m) (b (o m)) n) (T (o m) (o m))
theorem Ap(T:Nat->Nat->Nat)(X:Nat->Nat)(h:Nat->Nat->Bool)(i s:Nat)(l:s<18446744073709551616):∀k,IJ T X h i s k<18446744073709551616
 |0=>l
 |k+1=>by
  show(if _ then _ else _)<_
  split
  ·exact jc _ _ (Ap T X h i s l k) (iY _ (iQ _ _))
  ·exact Ap T X h i s l k
theorem Hs(n:Nat)(T:Nat->Nat->Nat)(b o:Nat->Nat)(h:Nat->Nat->Bool):∀m i,DY n T b o h m i<18446744073709551616
 |0,_=>by show(0:Nat)<_;decide
 |m+1,i=>by
  show(if _ then _ else _)<_
  split
  ·exact wD _ _
  ·exact Hs n T b o h m i
structure DZ (n:Nat) (o:Nat->Nat):Prop where
 lt:∀m,m<n->o m<n
 inj:∀m t,m<n->t<n->o m=o t->m=t
 all:∀i,i<n->∃m,m<n/\o m=i
theorem Ht(n:Nat):DZ n (fun m=>n-1-m):=⟨fun m l=>by show n-1-m<n;omega,fun m t l D h=>by have G:n-1-m=n-1-t:=h;omega,fun i F=>⟨n-1-i,by omega,by show n-1-(n-1-i)=i;omega⟩⟩
theorem Hu{n:Nat}{T:Nat->Nat->Nat}{b o:Nat->Nat}{l:Nat->Nat->Bool}(h:DZ n o){m:Nat}:∀t,m<t->t<=n->DY n T b o l t (o m)=QQ n T b o l m:=by
 intro t
 induction t with
 |zero=>intro g _;omega
 |succ t ih=>
  intro D F;show(if o m=o t then _ else _)=_;rcases Nat.lt_or_ge m t with g|g
  ·rw[if_neg (fun e=>by have:=h.inj m t (by omega) (by omega) e;omega)]
   exact ih g (by omega)
  ·have e:m=t:=by omega
   subst e;rw[if_pos rfl];rfl
def xN(n q:Nat)(T B:Nat->Nat->Nat)(o:Nat->Nat)(dn:Nat->Nat->Bool):H3:=kZ n q (fun i k=>DY n T (fun p=>B p k) o dn n i)
def Hv(n q:Nat)(T B:Nat->Nat->Nat)(o:Nat->Nat)(dn:Nat->Nat->Bool)(c m:Nat):H3:=kZ n q (fun i k=>if k<c then DY n T (fun p=>B p k) o dn n i else if k=c then DY n T (fun p=>B p k) o dn m i else 0)
theorem qs(n q:Nat)(T B:Nat->Nat->Nat)(o:Nat->Nat)(h:Nat->Nat->Bool):(xN n q T B o h).length=n*q:=cQ _ _ _
theorem LH(n q:Nat)(T B:Nat->Nat->Nat)(o:Nat->Nat)(h:Nat->Nat->Bool)(c m:Nat):(Hv n q T B o h c m).length=n*q:=cQ _ _ _
theorem D2(n q:Nat)(T B:Nat->Nat->Nat)(o:Nat->Nat)(l:Nat->Nat->Bool):kZ n q (fun _ _=>0)=Hv n q T B o l 0 0:=dL (fun i k _ _=>by
 rw[if_neg (by omega)]
 by_cases h:k=0
 ·rw[if_pos h];rfl
 ·rw[if_neg h])
theorem LK(n q:Nat)(T B:Nat->Nat->Nat)(o:Nat->Nat)(l:Nat->Nat->Bool)(c:Nat):Hv n q T B o l c n=Hv n q T B o l (c+1) 0:=dL (fun i k _ _=>by
 by_cases h:k<c
 ·rw[if_pos h,if_pos (by omega)]
 ·by_cases t:k=c
  ·rw[if_neg h,if_pos t,if_pos (by omega)]
  ·rw[if_neg h,if_neg t,if_neg (by omega)]
   by_cases D:k=c+1
   ·rw[if_pos D];rfl
   ·rw[if_neg D])
theorem LO(n q:Nat)(T B:Nat->Nat->Nat)(o:Nat->Nat)(h:Nat->Nat->Bool):Hv n q T B o h q 0=xN n q T B o h:=dL (fun i k _ l=>by rw[if_pos l])
theorem O6{n q:Nat}(T B:Nat->Nat->Nat)(o:Nat->Nat)(h:Nat->Nat->Bool){c m k:Nat}(l:k<n)(t:c<q):a8 q (Hv n q T B o h c m) k c=DY n T (fun p=>B p c) o h m k:=by
 unfold Hv;rw[kw n q _ l t,if_neg (Nat.lt_irrefl c),if_pos rfl]
theorem LP{n q:Nat}(T B:Nat->Nat->Nat){o:Nat->Nat}(F:Nat->Nat->Bool)(h:DZ n o){c m:Nat}(G:m<n)(H:c<q):(Hv n q T B o F c m).set (o m*q+c) (QQ n T (fun p=>B p c) o F m)=Hv n q T B o F c (m+1):=by
 unfold Hv;rw[ql n q _ _ (h.lt m G) H];refine dL (fun i k _ _=>?_)
 by_cases l:k=c
 ·subst l
  rw[if_neg (Nat.lt_irrefl k),if_pos rfl,if_neg (Nat.lt_irrefl k),if_pos rfl];show _=if i=o m then _ else _
  by_cases t:i=o m
  ·rw[if_pos ⟨t,rfl⟩,if_pos t];rfl
  ·rw[if_neg (fun e=>t e.1),if_neg t]
 ·rw[if_neg (fun e=>l e.2)]
  by_cases D:k<c
  ·rw[if_pos D,if_pos D]
  ·rw[if_neg D,if_neg l,if_neg D,if_neg l]
theorem LU{n q:Nat}{T B:Nat->Nat->Nat}{o:Nat->Nat}{t:Nat->Nat->Bool}(h:DZ n o):cF (xN n q T B o t)=true↔∀c m,c<q->m<n->ah (QQ n T (fun p=>B p c) o t m)=true:=by
 rw[jh,qs]
 constructor
 ·intro g c m G l
  have:=g (o m*q+c) (dK (h.lt m l) G);unfold xN at this;rw[qk _ _ _ (h.lt m l) G,Hu h n l (Nat.le_refl n)]at this;exact this
 ·intro g p I
  obtain⟨D,F,H⟩:=iE I;obtain⟨m,l,e⟩:=h.all _ D;unfold xN;rw[<-H,qk _ _ _ D F,<-e,Hu h n l (Nat.le_refl n)];exact g _ m F l
def Hw(i k:Nat):Bool:=decide (i<k)
theorem xO(T:Nat->Nat->Nat)(X:Nat->Nat)(l:Nat->Nat->Bool)(i s:Nat):∀k,(∀p,p<k->l i p=false)->IJ T X l i s k=s
 |0,_=>rfl
 |k+1,h=>by
  show(if _ then _ else _)=_;rw[h k (Nat.lt_succ_self k),if_neg (by decide)];exact xO T X l i s k (fun p t=>h p (by omega))
def LW(n q:Nat)(R B:H3):H3:=xN n q (a8 n R) (a8 q B) (fun m=>n-1-m) Hw
def gI(r c:Nat)(S:H3):H3:=(List.range (min r c)).map (fun i=>a8 c S i i)
theorem vk(r c:Nat)(S:H3):(gI r c S).length=min r c:=by unfold gI;rw[List.length_map,List.length_range]
def O7(xs:H3):Bool:=xs.any (fun x=>decide (fK x=0))
def Qq(a b:Nat):Bool:=decide (cO a b<0)
def Aq(r c:Nat)(S:H3):Bool:=(gI r c S).any (fun x=>!Qq (xV (bT 0 (gI r c S)) (-40)) (fR x))
attribute [local go_sem ↓] Go.wp_at_zero Go.wp_at_succ
theorem D3(fn:Nat)(N:Array Value)(r c:Nat)(f:Nat->Nat->Nat)(w:World)
  (ba:∀args w,(callFunc fn args).run Tryz.prog w=.ok (.enter fn args) w) (hr:r<=6) (hc:c<=6) (hf:∀i k,i<r->k<c->f i k<18446744073709551616)
  (t:∀J i k,H8 w J->i<r->k<c->GF fn (#[C0 (i:Nat),C0 (k:Nat)]++N) J fun e a1=>e=.returned (CI (f i k:Nat))/\H8 J a1):
  GF 131 #[C0 r,C0 c,.func (.func fn) #[] N] w fun e J=>∃ao cap,e=.returned (.agg #[C0 r,C0 c,.slice ao (r*c) cap])/\cT w.heap.size J (.slice ao (r*c) cap) (kZ r c f)/\H8 w J:=by
 obtain⟨i0,a4,a5,a6,a7⟩:=info_parts og;have HS:=ac t;have HF:=ac hf;have hm:(r:Int)*(c:Int)=((r*c:Nat):Int):=ch r c;have bb:r*c<=36:=Nat.mul_le_mul hr hc;have X0:=ac (aE.new w (C0 0) (C0 0) (.slice none 0 0));have B0:=ac (ad w (.cells #[C0 0,C0 0,.slice none 0 0] 24));obtain⟨w1,a9,U,am⟩:=run_make_own (P:=Tryz.prog) (w.alloc (.cells #[C0 0,C0 0,.slice none 0 0] 24)) (w.heap.size+1) 22 69 i0 (CI 0) 1 Tryz.underlying22 a4 a5 a6 .i64 .i64 (r*c) (by rw[a7];omega) (by unfold maxLen;omega) (by simp);have B1:=ac ((uH B0).grown am (by simp) (fun g hg=>by cases hg));have X1:aE w1 w.heap.size (C0 0) (C0 0) (.slice none 0 0):=(uH X0).grown am (by simp);have O1:=ac (show cT (w.heap.size+1) w1 (.slice (some ⟨w.heap.size+1,0,none⟩) 0 (r*c)) (kX (fun p=>f (p/c) (p%c)) (0*c))from⟨by rw[Nat.zero_mul];simpa[kX]using U,by rw[Nat.zero_mul];intro x hx;cases hx⟩);have ap:=ac X1;clear U am X0 B0 X1;obtain⟨F,hF⟩:∃F:Nat->Nat,F=fun p=>f (p/c) (p%c):=⟨_,rfl⟩
 rw[<-hF]at O1;have FV:=ac (show∀j k,k<c->F (j*c+k)=f j k from fun j k hk=>by rw[hF];show f ((j*c+k)/c) ((j*c+k)%c)=_;rw[jV hk,jW hk]);have FM:=ac (show kZ r c f=kX F (r*c)from by rw[hF];rfl);rw[uH FM];generalize a0:r*c=n at*;have ax:=ac a0;clear a0 t hf hF
 go_enter Tryz.func131,Tryz.ntmps131
 go_wp2_with fail;clear a9
 go_loopw[7,15] (fun v i wr=>∃j:Nat,j<=r/\i=.int .i64 j/\Hid (cT (w.heap.size+1) wr v (kX F (j*c)))/\Hid (aE wr w.heap.size (C0 0) (C0 0) (.slice none 0 0))/\Hid (H8 w wr)) (fun _ i _=>r-(intOf i).toNat)
 case atStart=>exact⟨0,Nat.zero_le _,rfl,O1,ap,B1⟩
 case round=>
  clear O1 ap B1;obtain⟨j,hj,rfl,G,l,I⟩:=hrel
  by_cases ae:j<r
  ·have bc:(j:Int)<(r:Int):=by omega
   have K:=ac (show cT (w.heap.size+1) wr _ (kX F (j*c+0))from uH G);clear G;go_wp2_with fail
   go_loopw[7,19] (fun v i wr=>∃k:Nat,k<=c/\i=.int .i64 k/\Hid (cT (w.heap.size+1) wr v (kX F (j*c+k)))/\Hid (aE wr w.heap.size (C0 0) (C0 0) (.slice none 0 0))/\Hid (H8 w wr)) (fun _ i _=>c-(intOf i).toNat)
   case atStart=>exact⟨0,Nat.zero_le _,rfl,K,l,I⟩
   case round=>
    clear K l I;obtain⟨k,hk,rfl,G,l,I⟩:=hrel
    by_cases L:k<c
    ·have bd:(k:Int)<(c:Int):=by omega
     have C:=ac (fun J h=>uH HS J j k h ae L);have ho:=ac (uH HF j k ae L);have eo:=ac (uH FV j k L);have O:=ac (show(kX F (j*c+k)).length<=1000000 from by
      rw[iT];have:=dK ae L;rw[uH ax]at this;omega)
     generalize f j k=o at*;go_wp2_with fail;refine(uH C _ I.out).mono ?_;rintro e w2 ⟨rfl,M⟩;have Q:=(uH G).below M;have D:=(uH l).all M;have B2:=I.out.trans (M.mono I.out.size);obtain⟨v3,w3,Z,aa,H,_,_⟩:=Q.push o (uH ho) (uH O) (by have:=D.lt;omega) 22;have aI:=ac Z;have O3:=ac (show cT (w.heap.size+1) w3 v3 (kX F (j*c+(k+1)))from by
      rw[<-Nat.add_assoc,oh,uH eo];exact aa)
     have X3:=ac (D.below H (by omega));have B3:=ac (B2.trans (H.mono (by omega)));clear M C G l I Q D B2 Z aa H ho eo O
     go_wp2_with(at_builtin;refine du _ rfl _ _ 22 rfl _ _ _ _ rfl rfl (uH aI) ?_;clear aI)
     go_round
     case rel=>exact⟨k+1,by omega,by go_num,O3,X3,B3⟩
     case measure=>simp[intOf];omega
    ·have a2:k=c:=by omega
     subst a2;have K:=ac (show cT (w.heap.size+1) _ _ (kX F ((j+1)*k))from by rw[Nat.add_mul,Nat.one_mul];exact uH G);clear G;go_wp2_with fail
     go_round
     case rel=>exact⟨j+1,by omega,by go_num,K,l,I⟩
     case measure=>simp[intOf];omega
  ·have a3:j=r:=by omega
   subst a3;rw[uH ax]at G;obtain⟨b1,d1,e1,q1⟩:=(uH G).bits;have QO:=ac (((uH G).putM (uH l) (Nat.lt_succ_self _) (C0 j) (C0 c) u7).least (Nat.le_succ _));rw[iT]at e1;rw[e1]at QO;subst e1;have s0:=(uH l).c0;have s1:=(uH l).c1;have s2:=(uH l).c2;have f0:=(uH l).free 0;have f1:=(uH l).free 1;have f2:=(uH l).free 2;have XP:=(uH l).put (C0 j) (C0 c) (.slice b1 n d1);have z0:=XP.c0;have z1:=XP.c1;have z2:=XP.c2;have BP:=ac (az (uH I) (Nat.le_refl _) (C0 j) (C0 c) (.slice b1 n d1));clear q1 G l I XP
   go_wp2
   exact bodyPost_ret (v:=.agg #[C0 j,C0 c,.slice b1 n d1]) (by simp[results,Tryz.results131,go_sem,z0,z1,z2]) rfl ⟨b1,d1,rfl,uH QO,uH BP⟩
theorem Ar(r c:Nat)(w:World)(O:r<=6)(U:c<=6):
  GF 201 #[C0 r,C0 c] w fun e t=>∃ao cap,e=.returned (.tuple #[.agg #[C0 r,C0 c,.slice ao (r*c) cap],C0 0])/\cT w.heap.size t (.slice ao (r*c) cap) (kZ r c (fun _ _=>0))/\H8 w t:=by
 have K:=ac (fun t=>js r c t);rw[show En (r:Int) (c:Int)=true from decide_eq_true (by omega)]at K;have I:=an w (.cells #[C0 0,C0 0,.slice none 0 0] 24);have J:=ac ((D3 231 #[] r c (fun _ _=>0) (w.alloc (.cells #[C0 0,C0 0,.slice none 0 0] 24)) GU O U (fun _ _ _ _=>by decide) (fun t i k _ _ _=>zU i k t)).mono (R':=fun e h=>∃ao cap,e=.returned (.agg #[C0 r,C0 c,.slice ao (r*c) cap])/\cT (w.heap.size+1) h (.slice ao (r*c) cap) (kZ r c (fun _ _=>0))/\H8 w h/\aE h w.heap.size (C0 0) (C0 0) (.slice none 0 0)) (by
  rintro e h ⟨ao,cap,rfl,L,M⟩;have b:=ad w (.cells #[C0 0,C0 0,.slice none 0 0] 24);rw[I]at L;exact⟨ao,cap,rfl,L,b.trans (M.mono b.size),(aE.new w (C0 0) (C0 0) (.slice none 0 0)).all M⟩))
 generalize r*c=n at*;clear I
 go_enter Tryz.func201,Tryz.ntmps201
 go_wp2_with fail;refine(uH K _).mono ?_;rintro e w1 ⟨rfl,rfl⟩;clear K;go_wp2_with fail;refine Calls.mono (uH J) ?_;clear J;rintro e w2 ⟨G,H,rfl,N,D,l⟩;have f0:=l.free 0;have f1:=l.free 1;have f2:=l.free 2;have F:=l.put (C0 r) (C0 c) (.slice G n H);have Z:=F.c0;have z1:=F.c1;have z2:=F.c2;have I:=l.c0;have s1:=l.c1;have s2:=l.c2;have Q:=ac ((N.putM l (Nat.lt_succ_self _) (C0 r) (C0 c) (.slice G n H)).least (Nat.le_succ _));have BP:=ac (az D (b:=w.heap.size) (by omega) (C0 r) (C0 c) (.slice G n H));clear F N D l
 go_wp2
 exact bodyPost_ret (v:=.tuple #[.agg #[C0 r,C0 c,.slice G n H],C0 0]) (by simp[results,Tryz.results201,go_sem,Z,z1,z2]) rfl ⟨_,_,rfl,uH Q,uH BP⟩
theorem O8(args:Array Value)(w:World):(callFunc 105 args).run Tryz.prog w=.ok (.enter 105 args) w:=by
 simp only[callFunc,go_sem];rfl
theorem Qr(args:Array Value)(w:World):(callFunc 106 args).run Tryz.prog w=.ok (.enter 106 args) w:=by
 simp only[callFunc,go_sem];rfl
theorem vp(n m:Nat)(w:World)(t:n<=6)(D:m<n):
  BS 105 #[C0 n,C0 m] w (C0 ((n-1-m:Nat):Int)):=by
 obtain⟨p,l⟩:∃p,n-1-m=p:=⟨_,rfl⟩;have F:IntKind.i64.wrap ((n:Int)-1)=(n:Int)-1:=bF _ (by omega);have G:IntKind.i64.wrap ((n:Int)-1-(m:Int))=(p:Int):=(bF _ (by omega)).trans (by omega);rw[l]
 go_enter Tryz.func105,Tryz.ntmps105
 go_wp2
 go_ret
 exact⟨rfl,Below.refl _ _⟩
theorem LY(i k:Nat)(w:World):
  BS 106 #[C0 i,C0 k] w (.bool (Hw i k)):=by
 go_enter Tryz.func106,Tryz.ntmps106
 go_wp2
 go_ret
 exact⟨rfl,Below.refl _ _⟩
theorem D4{l:Nat}{w:World}{v:Value}{S:H3}(h:cT l w v S){b:Nat}{x y z:Value}(t:aE w b x y z):v.ownBlock≠some b:=by
 rcases h.1.2 with⟨e,_⟩|⟨g,cap,F,G,I,H,_⟩
 ·rw[e];intro q;cases q
 ·rw[G]
  intro q;have e:g=b:=by
   have D:some g=some b:=q
   simpa using D
  subst e;unfold aE at t;rw[H]at t
  simp at t
theorem xP(i c k n:Nat)(h:i<n)(l:n<=6)(t:c<=6)(D:k<c):∃q p:Nat,i*c=q/\q+k=p/\p<n*c/\IntKind.i64.wrap ((i:Int)*(c:Int))=(q:Int)/\IntKind.i64.wrap ((q:Int)+(k:Int))=(p:Int)/\(i:Int)*(c:Int)=(q:Int)/\(q:Int)+(k:Int)=(p:Int)/\IntKind.i64.wrap (q:Int)=(q:Int)/\IntKind.i64.wrap (p:Int)=(p:Int):=by
 have F:=dK h D;have G:n*c<=36:=Nat.mul_le_mul l t;refine⟨i*c,i*c+k,rfl,rfl,F,?_,?_,ch i c,by omega,bF _ (by omega),bF _ (by omega)⟩
 ·rw[ch i c];exact bF _ (by omega)
 ·exact(bF _ (by omega)).trans (by omega)
structure pK (w wr:World) (h n q tn tc bn bc L xc:Nat) (tq bo xo:GY) (X:H3):Prop where
 bel:H8 w wr
 hh:w.heap.size+3<=h
 t:aE wr w.heap.size (C0 n) (C0 n) (.slice tq tn tc)
 b:aE wr (w.heap.size+1) (C0 n) (C0 q) (.slice bo bn bc)
 res:aE wr (w.heap.size+1+1) (C0 0) (C0 0) (.slice none 0 0)
 x:aE wr h (C0 n) (C0 q) (.slice xo L xc)
 own:cT (w.heap.size+1+1+1) wr (.slice xo L xc) X
 len:X.length=L
theorem pK.all{w wr D:World}{h n q F G H I L J:Nat}{K M N:GY}{X:H3}(s:pK w wr h n q F G H I L J K M N X)(l:H8 wr D):pK w D h n q F G H I L J K M N X:=
 ⟨s.bel.trans (l.mono s.bel.size),s.hh,s.t.all l,s.b.all l,s.res.all l,s.x.all l,s.own.below l,s.len⟩
theorem pK.at{w wr:World}{h n q F G H I L J:Nat}{K M l:GY}{X:H3}(s:pK w wr h n q F G H I L J K M l X){p:Nat}(N:p<L):
  ∃g,l=some ⟨g,0,none⟩/\wr.cell? ⟨g,p,none⟩=some (CI (X.getD p 0:Nat))/\wr.frozen? ⟨g,p,none⟩=false/\
   ∀x,x<18446744073709551616->pK w (wr.setCell ⟨g,p,none⟩ (CI (x:Nat))) h n q F G H I L J K M l (X.set p x):=by
 obtain⟨g,e,hg,U,Z,hf,hs⟩:=s.own.at (j:=p) (by rw[s.len];exact N);refine⟨g,e,Z,hf,fun x O=>?_⟩;have D:g≠h:=by
  have:=D4 s.own s.x;rw[e]at this;intro e2;exact this (by rw[e2];rfl)
 have Q:=s.hh;refine⟨s.bel.setCell (p:=⟨g,p,none⟩) (by show w.heap.size<=g;omega) _,Q,s.t.other (p:=⟨g,p,none⟩) (by show w.heap.size≠g;omega) _,s.b.other (p:=⟨g,p,none⟩) (by show w.heap.size+1≠g;omega) _,s.res.other (p:=⟨g,p,none⟩) (by show w.heap.size+1+1≠g;omega) _,s.x.other (p:=⟨g,p,none⟩) (by exact fun e=>D e.symm) _,hs x O,by rw[List.length_set];exact s.len⟩
theorem dh(w:World)(x y z l t D F G z2:Value)(H:World)(h:Below (w.heap.size+1+1+1) (((w.alloc (.cells #[x,y,z] 24)).alloc (.cells #[l,t,D] 24)).alloc (.cells #[F,G,z2] 24)) H):
  Below w.heap.size w H/\aE H w.heap.size x y z/\aE H (w.heap.size+1) l t D/\aE H (w.heap.size+1+1) F G z2:=by
 have Q:=ad w (.cells #[x,y,z] 24);have s0:=an w (.cells #[x,y,z] 24);have x0:=aE.new w x y z;generalize w.alloc (.cells #[x,y,z] 24)=K at*;have U:=ad K (.cells #[l,t,D] 24);have Z:=an K (.cells #[l,t,D] 24);have x1:=aE.new K l t D;have M:=x0.all U;generalize K.alloc (.cells #[l,t,D] 24)=L at*;have N:=ad L (.cells #[F,G,z2] 24);have s2:=an L (.cells #[F,G,z2] 24);have I:=aE.new L F G z2;have J:=x1.all N;have O:=M.all N;generalize L.alloc (.cells #[F,G,z2] 24)=wc at*;rw[s0]at Z J;rw[Z]at s2 I;rw[<-s2]at h;have b3:=Q.trans (U.mono Q.size);have b4:=b3.trans (N.mono b3.size);exact⟨b4.trans (h.mono b4.size),O.all h,J.all h,I.all h⟩
theorem pK.out{w wr:World}{h n q F G H I L t:Nat}{J K l:GY}{X:H3}(s:pK w wr h n q F G H I L t J K l X):
  dw w.heap.size l (aX X)/\ag (((wr.setCell ⟨w.heap.size+1+1,0,none⟩ (C0 n)).setCell ⟨w.heap.size+1+1,1,none⟩ (C0 q)).setCell ⟨w.heap.size+1+1,2,none⟩ (.slice l L t)) l t (aX X)/\H8 w (((wr.setCell ⟨w.heap.size+1+1,0,none⟩ (C0 n)).setCell ⟨w.heap.size+1+1,1,none⟩ (C0 q)).setCell ⟨w.heap.size+1+1,2,none⟩ (.slice l L t)):=by
 obtain⟨ao,cap,e,N⟩:=s.own.bits;simp only[Value.slice.injEq]at e;obtain⟨rfl,_,rfl⟩:=e;have D:ag wr l t (aX X):=N;have M:=s.own.newB;exact⟨M.least (by omega),D.putM s.res _ _ _,az s.bel (by omega) _ _ _⟩
theorem As(n q tc bc tn bn L fo fd:Nat)(tq bo:GY)(T B:H3)(o:Nat->Nat)(J:Nat->Nat->Bool)(w:World)(hT:Mx w tq tc n n T)(hB:Mx w bo bc n q B)(bE:T.length=tn)(bG:B.length=bn)(hL:n*q=L)(hO:DZ n o)
  (c7:∀args w,(callFunc fo args).run Tryz.prog w=.ok (.enter fo args) w) (c9:∀args w,(callFunc fd args).run Tryz.prog w=.ok (.enter fd args) w)
  (CO:∀l m,m<n->BS fo #[C0 n,C0 (m:Nat)] l (C0 (o m:Nat)))
  (CD:∀l i k,i<n->k<n->BS fd #[C0 (i:Nat),C0 (k:Nat)] l (.bool (J i k))) (be:cX w):
  GF 165 #[.agg #[C0 n,C0 n,.slice tq tn tc],.agg #[C0 n,C0 q,.slice bo bn bc],.func (.func fo) #[C0 n] #[],.func (.func fd) #[] #[]] w fun e l=>
   ∃S xo K,e=.returned (.tuple #[.agg #[C0 n,C0 q,.slice xo L K],.bool (cF (xN n q (a8 n T) (a8 q B) o J))])/\(cF (xN n q (a8 n T) (a8 q B) o J)=true->S=xN n q (a8 n T) (a8 q B) o J)/\S.length=L/\dw w.heap.size xo (aX S)/\ag l xo K (aX S)/\H8 w l:=by
 have n6:=hT.2.2.1;have q6:=hB.2.2.2;have KB:=ac (dh w (C0 n) (C0 n) (.slice tq tn tc) (C0 n) (C0 q) (.slice bo bn bc) (C0 0) (C0 0) (.slice none 0 0));have K0:=ac (Ar n q (((w.alloc (.cells #[C0 n,C0 n,.slice tq tn tc] 24)).alloc (.cells #[C0 n,C0 q,.slice bo bn bc] 24)).alloc (.cells #[C0 0,C0 0,.slice none 0 0] 24)) n6 q6);(try unfold BS at K0);(try unfold H8 at K0);simp only[an]at K0;rw[hL]at K0;obtain⟨_,cy,bz,_⟩:=uH KB _ (by have:=Below.refl (((w.alloc (.cells #[C0 n,C0 n,.slice tq tn tc] 24)).alloc (.cells #[C0 n,C0 q,.slice bo bn bc] 24)).alloc (.cells #[C0 0,C0 0,.slice none 0 0] 24)).heap.size (((w.alloc (.cells #[C0 n,C0 n,.slice tq tn tc] 24)).alloc (.cells #[C0 n,C0 q,.slice bo bn bc] 24)).alloc (.cells #[C0 0,C0 0,.slice none 0 0] 24));simpa only[an]using this);have y0:=bz.c0;have y1:=bz.c1;have HT:=ac hT;have b9:=ac hB;have HL:=ac hL;have HO:=ac hO;have KO:=ac CO;have KD:=ac CD;have bi:=ac be;have LT:=ac bE;have LB:=ac bG;obtain⟨I,Z⟩:∃I:Nat->Nat->H3,Hv n q (a8 n T) (a8 q B) o J=I:=⟨_,rfl⟩;obtain⟨NN,aI⟩:∃NN:Nat->Nat->Nat,(fun c m=>QQ n (a8 n T) (fun p=>a8 q B p c) o J m)=NN:=⟨_,rfl⟩;obtain⟨XX,bd⟩:∃XX:Nat->Nat->Nat->Nat,(fun c m k=>DY n (a8 n T) (fun p=>a8 q B p c) o J m k)=XX:=⟨_,rfl⟩;obtain⟨SG,ap⟩:∃SG:Nat->Nat->Nat->Nat,(fun c m k=>IJ (a8 n T) (DY n (a8 n T) (fun p=>a8 q B p c) o J m) J (o m) (a8 q B (o m) c) k)=SG:=⟨_,rfl⟩;obtain⟨ae,a0⟩:∃ae,cF (xN n q (a8 n T) (a8 q B) o J)=ae:=⟨_,rfl⟩;have FF:Hid (ae=true↔∀c m,c<q->m<n->ah (NN c m)=true):=ac (by rw[<-a0,<-aI];exact LU hO);have EM:=ac (show I q 0=xN n q (a8 n T) (a8 q B) o J from by rw[<-Z];exact LO _ _ _ _ _ _);have E0:=ac (show kZ n q (fun _ _=>0)=I 0 0 from by rw[<-Z];exact D2 _ _ _ _ _ _);have EC:=ac (show∀c,I c n=I (c+1) 0 from fun c=>by rw[<-Z];exact LK _ _ _ _ _ _ c);have ES:=ac (show∀c m,m<n->c<q->(I c m).set (o m*q+c) (NN c m)=I c (m+1)from fun c m hm hc=>by rw[<-Z,<-aI];exact LP _ _ _ hO hm hc);have EL:=ac (show∀c m,(I c m).length=L from fun c m=>by rw[<-Z,LH,hL]);have EA:=ac (show∀c m k,k<n->c<q->(I c m).getD (k*q+c) 0=XX c m k from fun c m k hk hc=>by rw[<-Z,<-bd];exact O6 _ _ _ _ hk hc);have S0:=ac (show∀c m,SG c m 0=a8 q B (o m) c from fun c m=>by rw[<-ap];rfl);have SY:=ac (show∀c m k,J (o m) k=true->SG c m (k+1)=aV (SG c m k) (fN (mV (a8 n T (o m) k) (XX c m k)))from fun c m k hd=>by rw[<-ap,<-bd];exact if_pos hd);have SN:=ac (show∀c m k,J (o m) k=false->SG c m (k+1)=SG c m k from fun c m k hd=>by rw[<-ap];exact if_neg (by rw[hd];decide));have SE:=ac (show∀c m,NN c m=dV (SG c m n) (a8 n T (o m) (o m))from fun c m=>by rw[<-ap,<-aI];rfl);have SL:=ac (show∀c m k,SG c m k<18446744073709551616 from fun c m k=>by rw[<-ap];exact Ap _ _ _ _ _ (hB.el_lt _ _) k);have XL:=ac (show∀c m k,XX c m k<18446744073709551616 from fun c m k=>by rw[<-bd];exact Hs _ _ _ _ _ m k);have NL:=ac (show∀c m,NN c m<18446744073709551616 from fun c m=>by rw[<-aI];exact wD _ _);have TL:=ac (show∀i k,a8 n T i k<18446744073709551616 from fun i k=>hT.el_lt i k);rw[a0];generalize c6:xN n q (a8 n T) (a8 q B) o J=c5 at*;clear hT hB bE bG hL hO CO CD be Z a0 aI bd ap cy bz
 go_enter Tryz.func165,Tryz.ntmps165
 go_wp2_with fail
 go_step3
 go_wp2_with fail;refine(uH K0).mono ?_;rintro e w1 ⟨xo,K,rfl,b6,H⟩;obtain⟨bw,bt,bb,br⟩:=uH KB w1 H;have ba:=ad w1 (.cells #[C0 n,C0 q,.slice xo L K] 24);have ST:Hid (pK w (w1.alloc (.cells #[C0 n,C0 q,.slice xo L K] 24)) w1.heap.size n q tn tc bn bc L K tq bo xo (I 0 0)):=ac ⟨bw.trans (ba.mono bw.size),by have:=H.size;(try unfold BS at this);(try unfold H8 at this);simp only[an]at this;omega,bt.all ba,bb.all ba,br.all ba,aE.new w1 _ _ _,by rw[<-uH E0];exact b6.below ba,uH EL 0 0⟩;clear y0 y1 K0 KB b6 H bw bt bb br ba E0;have y1:=(uH ST).b.c1;go_wp2_with fail
 go_step3
 go_wp2_with fail;clear y1;generalize w1.heap.size=h at*
 go_loopg [12,29] q (fun g fv a wr=>∃c:Nat,c+g=q/\fv=.bool true/\a=.int .i64 c/\Hid (∀c' m,c'<c->m<n->ah (NN c' m)=true)/\Hid (pK w wr h n q tn tc bn bc L K tq bo xo (I c 0)))
 case atStart=>exact⟨0,by omega,rfl,rfl,fun c' m hc=>absurd hc (Nat.not_lt_zero _),ST⟩
 case round=>
  clear ST;obtain⟨c,di,rfl,rfl,hF,D⟩:=hrel
  cases gk with
  |zero=>
   have da:¬((c:Int)<(q:Int)):=by omega
   have bI:Hid (ae=true):=ac ((uH FF).2 (fun c' m h1 h2=>uH hF c' m (by omega) h2));have ax:Hid (I c 0=c5):=ac (by rw[show c=q by omega];exact uH EM);have F:=uH D;have s0:=F.res.c0;have s1:=F.res.c1;have s2:=F.res.c2;have f0:=F.res.free 0;have f1:=F.res.free 1;have f2:=F.res.free 2;have q0:=F.x.c0;have q1:=F.x.c1;have q2:=F.x.c2;have XP:=F.res.put (C0 n) (C0 q) (.slice xo L K);have z0:=XP.c0;have z1:=XP.c1;have z2:=XP.c2;have O:=ac F.out;have bp:=ac F.len;clear XP F;go_wp2_with fail
   try rw[Exit.noGoto_ret]
   exact bodyPost_ret (v:=.tuple #[.agg #[C0 n,C0 q,.slice xo L K],.bool true]) (by simp[results,Tryz.results165,go_sem,z0,z1,z2]) rfl ⟨I c 0,xo,K,by rw[uH bI],fun _=>uH ax,uH bp,(uH O).1,(uH O).2.1,(uH O).2.2⟩
  |succ g=>
   have db:(c:Int)<(q:Int):=by omega
   have Q:=ac (show c<q by omega);have y0:=(uH D).t.c0;go_wp2_with fail;clear y0
   go_loopg [12,34] n (fun g2 fv a wr=>∃m:Nat,m+g2=n/\fv=.bool true/\a=.int .i64 m/\Hid (∀m',m'<m->ah (NN c m')=true)/\Hid (pK w wr h n q tn tc bn bc L K tq bo xo (I c m)))
   case atStart=>exact⟨0,by omega,rfl,rfl,fun m' hm=>absurd hm (Nat.not_lt_zero _),D⟩
   case round=>
    clear D;obtain⟨m,dl,rfl,rfl,hG,D⟩:=hrel
    cases gk with
    |zero=>
     have ca:¬((m:Int)<(n:Int)):=by omega
     go_wp2_with fail
     go_roundg g
     case measure=>omega
     case rel=>
      have ax:Hid (I c m=I (c+1) 0):=ac (by rw[<-uH EC c,show m=n by omega]);refine⟨c+1,by omega,rfl,by go_num,?_,by rw[<-uH ax];exact D⟩;show∀c' m',c'<c+1->m'<n->_;intro c' m' h1 h2
      by_cases e:c'=c
      ·subst e;exact uH hG m' (by omega)
      ·exact uH hF c' m' (by omega) h2
    |succ g2=>
     have ca:(m:Int)<(n:Int):=by omega
     have a9:=ac (show m<n by omega);obtain⟨i,hi⟩:∃i,o m=i:=⟨_,rfl⟩;have G:=ac (show i<n by rw[<-hi];exact(uH HO).lt m (uH a9));have bq:=ac (fun l=>uH KO l m (uH a9));rw[hi]at bq;have HI:=ac hi;clear hi;obtain⟨tb,a1,rfl,cz,_,_⟩:=(uH HT).cells (uH G) (uH G);obtain⟨bb,cA,rfl,c3,cb,bA⟩:=(uH b9).cells (uH G) (uH Q);obtain⟨p0,p,b4,hp,c4,e1,e2,e3,e4,e5,e6⟩:=xP i q c n (uH G) n6 q6 (uH Q);have bs:i*q+c=p:=by rw[b4];exact hp
     rw[bs]at cb bA;rw[uH LB]at bA;have cc:(p:Int)<(bn:Int):=by omega
     have B0:=ac (uH S0 c m);rw[uH HI]at B0;rw[<-uH B0]at cb;have CB:=ac cb;have dd:=ac bs;clear b4 hp c4 bs bA cb cz c3 B0;have cd:=ac (show∀k,J i k=true->SG c m (k+1)=aV (SG c m k) (fN (mV (a8 n T i k) (XX c m k)))from fun k hd=>by have:=uH SY c m k (by rw[uH HI];exact hd);rwa[uH HI]at this);have ce:=ac (show∀k,J i k=false->SG c m (k+1)=SG c m k from fun k hd=>uH SN c m k (by rw[uH HI];exact hd));have bJ:=ac (uH SE c m);have bv:=ac (uH ES c m (uH a9) (uH Q));rw[uH HI]at bJ bv;have cf:=ac (fun k hk=>uH EA c m k hk (uH Q));have bU:=ac (uH SL c m);have ci:=ac (uH XL c m);have bV:=ac (uH NL c m);have ck:=ac (fun l k (hk:k<n)=>uH KD l i k (uH G) hk);generalize SG c m=SS at*;generalize XX c m=XK at*;have y1:=(uH D).b.c1;go_wp2_with fail;clear y1;refine(uH bq _).mono ?_;rintro e w2 ⟨rfl,H⟩;replace D:=ac ((uH D).all H);clear H bq;have cb:=ay (uH CB) (uH D).bel;have y0:=(uH D).t.c0;have y1:=(uH D).b.c1;have y2:=(uH D).b.c2;go_wp2_with fail;clear cb y0 y1 y2 cc e1 e2 e3 e4 e5 e6
     go_loopg [16,52] n (fun g3 sv a wr=>∃k:Nat,k+g3=n/\sv=.int .u64 (SS k:Nat)/\a=.int .i64 k/\Hid (pK w wr h n q tn tc bn bc L K (some ⟨tb,a1,none⟩) (some ⟨bb,cA,none⟩) xo (I c m)))
     case atStart=>exact⟨0,by omega,rfl,rfl,D⟩
     case round=>
      clear D;obtain⟨k,dm,rfl,rfl,D⟩:=hrel
      cases gk with
      |zero=>
       have cl:¬((k:Int)<(n:Int)):=by omega
       have U:=ac (show k=n by omega);obtain⟨_,_,M,_,ct,aa⟩:=((uH HT).below (uH D).bel).cells (uH G) (uH G);simp only[Option.some.injEq,Addr.mk.injEq]at M;obtain⟨rfl,rfl,_⟩:=M;obtain⟨t0,pt,a2,a3,_,e1,e2,e3,e4,e5,e6⟩:=xP i n i n (uH G) n6 n6 (uH G);obtain⟨x0,px,a4,a5,a6,d1,d2,d3,d4,d5,d6⟩:=xP i q c n (uH G) n6 q6 (uH Q);rw[show i*n+i=pt by rw[a2];exact a3]at ct aa;rw[uH LT]at aa;have b0:(pt:Int)<(tn:Int):=by omega
       have b1:(px:Int)<(L:Int):=by have:=uH HL;omega
       have bx:=ac (show px<L by have:=uH HL;omega);have cm:=ac (show i*q+c=px by rw[a4];exact a5);have KV:=ac (fun l (H:H8 w l)=>rV (SS n) (a8 n T i i) l (uH bU n) (uH TL i i) ((uH bi).all H));rw[<-uH bJ]at KV;have NV:=ac (uH bV);have KF:=ac (fun l=>gE (NN c m) l (uH bV));rw[uH cm]at bv;have co:=ac (show SS k=SS n by rw[uH U]);rw[uH co];generalize a8 n T i i=tv at*;generalize b7:NN c m=nv at*;have b2:=ac b7;generalize SS n=sv at*;clear a2 a3 a4 a5 a6 aa b7;have y1:=(uH D).t.c1;have y2:=(uH D).t.c2;go_wp2_with fail;clear y1 y2 ct b0;refine(uH KV _ (uH D).bel).mono ?_;rintro e N ⟨rfl,H⟩;replace D:=ac ((uH D).all H);clear H KV;obtain⟨gx,rfl,cx,fx,b5⟩:=(uH D).at (uH bx);have S5:=ac (b5 nv (uH NV));have cp:=ac (show True from trivial);generalize (I c m).getD px 0=dq at*;rw[uH bv]at S5;have y1:=(uH D).b.c1;have y2:=(uH D).x.c2;clear b5 cp;go_wp2_with fail;clear y1 y2 cx fx D e1 e2 e3 e4 e5 e6 d1 d2 d3 d4 d5 d6 b1;refine(uH KF _).mono ?_;rintro e w4 ⟨rfl,H⟩;have S6:=ac ((uH S5).all H);clear H S5 KF
       cases hfx:ah nv with
       |true=>
        go_wp2_with fail
        go_roundg g2
        case measure=>omega
        case rel=>
         refine⟨m+1,by omega,rfl,by go_num,?_,S6⟩;show∀m',m'<m+1->_;intro m' h1
         by_cases e:m'=m
         ·subst e;rw[uH b2];exact hfx
         ·exact uH hG m' (by omega)
       |false=>
        have b3:Hid (ae=false):=ac (by
         cases hk:ae with
         |false=>rfl
         |true=>
          have:=(uH FF).1 hk c m (uH Q) (uH a9);rw[uH b2,hfx]at this
          cases this)
        have F:=uH S6;have s0:=F.res.c0;have s1:=F.res.c1;have s2:=F.res.c2;have f0:=F.res.free 0;have f1:=F.res.free 1;have f2:=F.res.free 2;have q0:=F.x.c0;have q1:=F.x.c1;have q2:=F.x.c2;have XP:=F.res.put (C0 n) (C0 q) (.slice (some ⟨gx,0,none⟩) L K);have z0:=XP.c0;have z1:=XP.c1;have z2:=XP.c2;have O:=ac F.out;have bp:=ac F.len;clear XP F;go_wp2_with fail
        try rw[Exit.noGoto_ret]
        exact bodyPost_ret (v:=.tuple #[.agg #[C0 n,C0 q,.slice (some ⟨gx,0,none⟩) L K],.bool false]) (by simp[results,Tryz.results165,go_sem,z0,z1,z2]) rfl ⟨I c (m+1),some ⟨gx,0,none⟩,K,by rw[uH b3],(fun e=>by rw[uH b3]at e;cases e),uH bp,(uH O).1,(uH O).2.1,(uH O).2.2⟩
      |succ g3=>
       have cl:(k:Int)<(n:Int):=by omega
       have U:=ac (show k<n by omega);have am:=ac (fun l=>uH ck l k (uH U))
       cases hd:J i k with
       |false=>
        rw[hd]at am;have E1:=ac (uH ce k hd);clear hd;go_wp2_with fail;refine(uH am _).mono ?_;rintro e N ⟨rfl,H⟩;replace D:=ac ((uH D).all H);clear H am;go_wp2_with fail
        go_roundg g3
        case measure=>omega
        case rel=>exact⟨k+1,by omega,by rw[uH E1],by go_num,D⟩
       |true=>
        rw[hd]at am;have E1:=ac (uH cd k hd);clear hd;go_wp2_with fail;refine(uH am _).mono ?_;rintro e N ⟨rfl,H⟩;replace D:=ac ((uH D).all H);clear H am;obtain⟨_,_,M,_,ct,aa⟩:=((uH HT).below (uH D).bel).cells (uH G) (uH U);simp only[Option.some.injEq,Addr.mk.injEq]at M;obtain⟨rfl,rfl,_⟩:=M;obtain⟨t0,pt,a2,a3,_,e1,e2,e3,e4,e5,e6⟩:=xP i n k n (uH G) n6 n6 (uH U);obtain⟨x0,px,a4,a5,a6,d1,d2,d3,d4,d5,d6⟩:=xP k q c n (uH U) n6 q6 (uH Q);rw[show i*n+k=pt by rw[a2];exact a3]at ct aa;rw[uH LT]at aa;have b0:(pt:Int)<(tn:Int):=by omega
        have b1:(px:Int)<(L:Int):=by have:=uH HL;omega
        have bx:=ac (show px<L by have:=uH HL;omega);have EX:=ac (uH cf k (uH U));rw[show k*q+c=px by rw[a4];exact a5]at EX;obtain⟨gx,rfl,cx,_,_⟩:=(uH D).at (uH bx);rw[uH EX]at cx;have TB:=ac ((uH bi).all (uH D).bel);have K1:=ac (fun l (H:H8 N l)=>nX (a8 n T i k) (XK k) l (uH TL i k) (uH ci k) ((uH TB).all H));have K2:=ac (fun l (H:H8 N l)=>le (SS k) (mV (a8 n T i k) (XK k)) l (uH bU k) (iQ _ _) ((uH TB).all H));rw[<-uH E1]at K2;generalize mV (a8 n T i k) (XK k)=pv at*;generalize a8 n T i k=tv at*;generalize XK k=xv at*;generalize b8:SS (k+1)=s2 at*;have cs:=ac b8;clear b8;generalize SS k=s1 at*;have y1:=(uH D).t.c1;have y2:=(uH D).t.c2;have y3:=(uH D).b.c1;have y4:=(uH D).x.c2;have HK:=ac (fun l (h':H8 N l)=>(show H8 N l/\l.cell? ⟨w.heap.size,1,none⟩=some (C0 (n:Nat))/\l.cell? ⟨w.heap.size,2,none⟩=some (.slice (some ⟨tb,a1,none⟩) tn tc)/\l.cell? ⟨w.heap.size+1,1,none⟩=some (C0 (q:Nat))/\l.cell? ⟨h,2,none⟩=some (.slice (some ⟨gx,0,none⟩) L K)/\l.cell? ⟨tb,a1+pt,none⟩=some (CI (tv:Nat))/\l.cell? ⟨gx,px,none⟩=some (CI (xv:Nat))from⟨h',ay y1 h',ay y2 h',ay y3 h',ay y4 h',ay ct h',ay cx h'⟩));clear y1 y2 y3 y4 ct cx a2 a3 a4 a5 a6 aa;go_wp2_with fail
        go_region_held3(fun l=>H8 N l/\l.cell? ⟨w.heap.size,1,none⟩=some (C0 (n:Nat))/\l.cell? ⟨w.heap.size,2,none⟩=some (.slice (some ⟨tb,a1,none⟩) tn tc)/\l.cell? ⟨w.heap.size+1,1,none⟩=some (C0 (q:Nat))/\l.cell? ⟨h,2,none⟩=some (.slice (some ⟨gx,0,none⟩) L K)/\l.cell? ⟨tb,a1+pt,none⟩=some (CI (tv:Nat))/\l.cell? ⟨gx,px,none⟩=some (CI (xv:Nat)))
         (first|exact uH HK _ (Below.refl _ _).drew|exact uH HK _ (by assumption)|fail "KK")
         (first|(go_at_call 203;refine(uH K1 _ (And.left (by assumption))).mono ?_;rintro e w4 ⟨rfl,a7⟩;have cu:H8 N w4:=Below.trans (And.left (by assumption)) (a7.mono (Below.size (And.left (by assumption))));clear a7)|(go_at_call 202;refine(uH K2 _ (And.left (by assumption))).mono ?_;rintro e w4 ⟨rfl,a7⟩;have cu:H8 N w4:=Below.trans (And.left (by assumption)) (a7.mono (Below.size (And.left (by assumption))));clear a7)|fail "NO ARM")
        go_wp2_with fail
        go_roundg g3
        case measure=>omega
        case rel=>exact⟨k+1,by omega,by rw[uH cs],by go_num,ac ((uH D).all (And.left (by assumption)))⟩
theorem D5{w:World}{D:GY}{F:Nat}{t:H3}(h:ag w D F (aX t)){k:Nat}(G:k<t.length):∃b l,D=some ⟨b,l,none⟩/\b<w.heap.size/\w.cell? ⟨b,l+k,none⟩=some (CI (t.getD k 0:Nat)):=by
 obtain⟨b,l,H,I,J⟩:=h.ne (by rw[aC];omega);refine⟨b,l,H,I,?_⟩;rw[J k (by rw[aC];exact G),fW]
theorem At(M:Nat)(D:Array Value)(po:GY)(pc n:Nat)(l:H3)(p:Nat->Bool)(w:World)(hl:l.length=n)(hn:n<=1000000)(N:ag w po pc (aX l))
  (am:∀args w,(callFunc M args).run Tryz.prog w=.ok (.enter M args) w)
  (t:∀F k,H8 w F->k<n->GF M (#[CI (l.getD k 0:Nat)]++D) F fun e O=>e=.returned (.bool (p (l.getD k 0)))/\H8 F O):
  GF 159 #[.slice po n pc,.func (.func M) #[] D] w fun e F=>∃ix:Int,e=.returned (C0 ix)/\decide (0<=ix)=l.any p/\H8 w F:=by
 have HS:=ac t;have HX:=ac N;have HL:=ac hl;have HN:=ac (show(∀j,j<n->p (l.getD j 0)=false)->l.any p=false from fun g=>by
  rw[List.any_eq_false];intro x N;obtain⟨j,I,rfl⟩:=List.mem_iff_getElem.1 N;have:=g j (by omega);rw[List.getD_eq_getElem?_getD,List.getElem?_eq_getElem I]at this
  simpa using this)
 have HY:=ac (show∀j,j<n->p (l.getD j 0)=true->l.any p=true from fun j I g=>by
  rw[List.any_eq_true];have J:j<l.length:=by omega
  refine⟨l[j],List.getElem_mem J,?_⟩;rw[List.getD_eq_getElem?_getD,List.getElem?_eq_getElem J]at g;exact g)
 generalize l.any p=a at*;clear t N hl
 go_enter Tryz.func159,Tryz.ntmps159
 go_wp2_with fail
 go_loopw[8] (fun i wr=>∃k:Nat,k<=n/\i=.int .i64 k/\Hid (∀j,j<k->p (l.getD j 0)=false)/\Hid (H8 w wr)) (fun i _=>n-(intOf i).toNat)
 case atStart=>exact⟨0,Nat.zero_le _,rfl,fun j I=>absurd I (Nat.not_lt_zero j),Below.refl _ _⟩
 case round=>
  obtain⟨k,hk,rfl,hF,H⟩:=hrel
  by_cases G:k<n
  ·have ap:(k:Int)<(n:Int):=by omega
   have C:=ac (fun F h=>uH HS F k h G);have Q:=ac (uH HY k G);obtain⟨b,a0,ae,a1,hc⟩:=D5 ((uH HX).below (uH H)) (k:=k) (by rw[uH HL];exact G);have U:=ac (fun(e:p (l.getD k 0)=false)=>(show∀j,j<k+1->p (l.getD j 0)=false from fun j I=>by
    rcases Nat.lt_or_ge j k with g|g
    ·exact uH hF j g
    ·rw[show j=k by omega];exact e))
   generalize L:l.getD k 0=x at*;subst ae;have ax:IntKind.i64.wrap ((k:Int)+1)=(k:Int)+1:=bF _ (by omega);have aI:=ac L;clear L;go_wp2_with fail;refine(uH C _ (uH H)).mono ?_;rintro e w2 ⟨rfl,K⟩;have B2:=ac ((uH H).trans (K.mono (uH H).size));clear K C H
   cases hp:p x with
   |true=>
    have hY:=ac (uH Q (by rw[hp]));clear U Q hF;go_wp2_with fail;exact bodyPost_ret (v:=.int .i64 (k:Nat)) (by simp[results,Tryz.results159,go_sem]) rfl ⟨_,rfl,by rw[uH hY];exact decide_eq_true (by omega),uH B2⟩
   |false=>
    have Z:=ac (uH U (by rw[hp]));clear U Q hF;go_wp2_with fail
    go_round
    case rel=>exact⟨k+1,by omega,by go_num,Z,B2⟩
    case measure=>first|(simp[intOf];done)|(simp[intOf];omega)
  ·have aa:k=n:=by omega
   subst aa;have hN:=ac (uH HN (uH hF));go_wp2_with fail;exact bodyPost_ret (v:=.int .i64 (-1)) (by simp[results,Tryz.results159,go_sem]) rfl ⟨-1,rfl,by rw[uH hN];rfl,uH H⟩
theorem ud(F:Nat)(h:Array Value)(G:GY)(H n:Nat)(t:H3)(p:Nat->Bool)(w:World)(M:t.length=n)(Q:n<=1000000)(N:ag w G H (aX t))
  (I:∀args w,(callFunc F args).run Tryz.prog w=.ok (.enter F args) w)
  (l:∀D k,H8 w D->k<n->GF F (#[CI (t.getD k 0:Nat)]++h) D fun e J=>e=.returned (.bool (p (t.getD k 0)))/\H8 D J):
  BS 99 #[.slice G n H,.func (.func F) #[] h] w (.bool (t.any p)):=by
 have K:=ac (At F h G H n t p w M Q N I l);generalize t.any p=a at*;clear l N M
 go_enter Tryz.func99,Tryz.ntmps99
 go_wp2_with fail;refine(uH K).mono ?_;rintro e Z ⟨ix,rfl,L,O⟩;clear K;have U:=ac O;clear O
 go_wp2
 go_ret
 exact⟨by rw[<-L];rfl,uH U⟩
def Hx(r c:Int)(I:List Int)(p q:Int)(J:List Int):Int:=if qm r c I=0 then qm p q J else qm r c I
theorem ue(r c:Int)(I:List Int):qm r c I=0\/qm r c I=1\/qm r c I=4:=by
 unfold qm
 repeat' split
 all_goals simp
theorem Au(r c p q:Int)(ao G:GY)(n cap m d:Nat)(H Q o:Int)(w:World)(he:(H=0/\o=Q)\/(H≠0/\o=H))
  (U:∀l,H8 w l->BS 63 #[.agg #[C0 r,C0 c,.slice ao n cap]] l (C0 H))
  (Z:∀l,H8 w l->BS 63 #[.agg #[C0 p,C0 q,.slice G m d]] l (C0 Q)):
  BS 48 #[.agg #[C0 r,C0 c,.slice ao n cap],.agg #[C0 p,C0 q,.slice G m d]] w (C0 o):=by
 have KB:=ac (jf w (C0 r) (C0 c) (.slice ao n cap) (C0 p) (C0 q) (.slice G m d));obtain⟨O,M,x1⟩:=uH KB ((w.alloc (.cells #[C0 r,C0 c,.slice ao n cap] 24)).alloc (.cells #[C0 p,C0 q,.slice G m d] 24)) (by have:=Below.refl ((w.alloc (.cells #[C0 r,C0 c,.slice ao n cap] 24)).alloc (.cells #[C0 p,C0 q,.slice G m d] 24)).heap.size ((w.alloc (.cells #[C0 r,C0 c,.slice ao n cap] 24)).alloc (.cells #[C0 p,C0 q,.slice G m d] 24));simpa only[an]using this);have I:=ac (U _ O);have h:=ac O;have F:=ac x1;have N:=ac Z;have J:=M.c0;have K:=M.c1;have L:=M.c2;clear U Z KB O M x1;rcases he with⟨rfl,rfl⟩|⟨aa,rfl⟩
 ·go_enter Tryz.func48,Tryz.ntmps48
  go_wp2_with fail;clear J K L;refine(uH I).mono ?_;rintro e w1 ⟨rfl,t⟩;replace F:=ac ((uH F).all t);replace h:=ac ((uH h).trans (t.mono (uH h).size));clear t I;have J:=(uH F).c0;have K:=(uH F).c1;have L:=(uH F).c2;go_wp2_with fail;clear J K L;refine(uH N _ (uH h)).mono ?_;rintro e w2 ⟨rfl,t⟩;replace h:=ac ((uH h).trans (t.mono (uH h).size));clear t N F
  go_wp2
  go_ret
  exact⟨rfl,uH h⟩
 ·go_enter Tryz.func48,Tryz.ntmps48
  go_wp2_with fail;clear J K L;refine(uH I).mono ?_;rintro e w1 ⟨rfl,t⟩;replace h:=ac ((uH h).trans (t.mono (uH h).size));clear t I F N
  go_wp2
  go_ret
  exact⟨rfl,uH h⟩
theorem lh(r c p q:Int)(ao t:GY)(cap d:Nat)(I J:List Int)(w:World)(F:ag w ao cap I)(G:ag w t d J)(H:I.length<=35184372088830)(K:J.length<=35184372088830):
  BS 48 #[.agg #[C0 r,C0 c,.slice ao I.length cap],.agg #[C0 p,C0 q,.slice t J.length d]] w (C0 (Hx r c I p q J)):=by
 refine Au r c p q ao t I.length cap J.length d (qm r c I) (qm p q J) (Hx r c I p q J) w ?_ (fun l D=>ks r c ao cap I l (F.below D) H) (fun l D=>ks p q t d J l (G.below D) K);unfold Hx
 by_cases h:qm r c I=0
 ·rw[if_pos h];exact .inl ⟨h,rfl⟩
 ·rw[if_neg h];exact .inr ⟨h,rfl⟩
theorem ou(r c cap q:Nat)(ao:GY)(S:H3)(w:World)(h:Mx w ao cap r c S)(hq:min r c=q):
  GF 96 #[.agg #[C0 r,C0 c,.slice ao S.length cap]] w fun e w'=>∃g,e=.returned (.slice (some ⟨g,0,none⟩) q q)/\w.heap.size<=g/\bS w' g (gI r c S)/\H8 w w':=by
 have r6:=h.2.2.1;have c6:=h.2.2.2;have F:∀(W:World) O t,(Builtin.min_ O t #[C0 (r:Int),C0 (c:Int)]).run Tryz.prog W=.ok (C0 (q:Int)) W:=fun W O t=>by
  rw[show(q:Int)=min (r:Int) (c:Int) by omega];exact nN _ W O t _ _
 have Q:=run_make_row' (P:=Tryz.prog) 22 69 (CI 0) 8 Tryz.underlying22 (by kernel_rfl) rfl .i64 .i64 q (by omega) (by omega);have U:=ad w (.cells #[C0 r,C0 c,.slice ao S.length cap] 24);have s0:=an w (.cells #[C0 r,C0 c,.slice ao S.length cap] 24);have K:=aE.new w (C0 r) (C0 c) (.slice ao S.length cap);have y0:=K.c0;have y1:=K.c1;have Z:=bS.made (w.alloc (.cells #[C0 r,C0 c,.slice ao S.length cap] 24)) q;have ba:=ad (w.alloc (.cells #[C0 r,C0 c,.slice ao S.length cap] 24)) (.cells (madeCells #[CI 0] q) 69);rw[s0]at Z;have HM:=ac Z;have HX:=ac (K.all ba);have HB:=ac (U.trans (ba.mono U.size));have HS:=ac h;obtain⟨f,hf⟩:∃f:Nat->Nat,(fun i=>a8 c S i i)=f:=⟨_,rfl⟩;have FV:=ac (show∀i,f i=a8 c S i i from fun i=>by rw[<-hf]);have FD:=ac (show gI r c S=(List.range q).map f from by rw[<-hf,<-hq];rfl);have a0:q<=r:=by omega
 have a1:q<=c:=by omega
 generalize J:S.length=n at*;have HL:=ac J;have aa:=ac h.2.1;clear h U s0 K Z ba hf J hq
 go_enter Tryz.func96,Tryz.ntmps96
 go_wp2_with fail;clear Q F y0 y1
 go_loopw[13] (fun i wr=>∃k:Nat,k<=q/\i=.int .i64 k/\Hid (bS wr (w.heap.size+1) (El f q k))/\Hid (aE wr w.heap.size (C0 r) (C0 c) (.slice ao n cap))/\Hid (H8 w wr)) (fun i _=>q-(intOf i).toNat)
 case atStart=>exact⟨0,Nat.zero_le _,rfl,by rw[MG];exact HM,HX,HB⟩
 case round=>
  clear HM HX HB;obtain⟨k,hk,rfl,I,L,M⟩:=hrel
  by_cases ae:k<q
  ·have a2:(k:Int)<(q:Int):=by omega
   have G:k<r:=by omega
   have H:k<c:=by omega
   obtain⟨b,a4,aI,a5,l,_⟩:=((uH HS).below (uH M)).cells G H;have D:=dK G H;rw[<-uH FV k]at l;obtain⟨u,hu⟩:∃u,f k=u:=⟨_,rfl⟩;rw[hu]at l;obtain⟨z,N⟩:∃z,k*c=z:=⟨_,rfl⟩;rw[N]at l D;obtain⟨x,hx⟩:∃x,z+k=x:=⟨_,rfl⟩;rw[hx]at l D;have am:x<n:=by rw[<-uH HL,uH aa];exact D
   have a3:(x:Int)<(n:Int):=by omega
   have ap:r*c<=36:=Nat.mul_le_mul r6 c6;have e2:IntKind.i64.wrap ((k:Int)*(c:Int))=(z:Int):=by
    rw[ch k c,N];exact bF _ (by omega)
   have e3:IntKind.i64.wrap ((z:Int)+(k:Int))=(x:Int):=(bF _ (by omega)).trans (by omega);have e5:(k:Int)*(c:Int)=(z:Int):=by rw[ch k c,N]
   have e6:(z:Int)+(k:Int)=(x:Int):=by omega
   have e7:IntKind.i64.wrap (z:Int)=(z:Int):=bF _ (by omega);have e8:IntKind.i64.wrap (x:Int)=(x:Int):=bF _ (by omega);subst aI;have y1:=(uH L).c1;have y2:=(uH L).c2;have c0:=(uH I).cell k (by rw[Bl];exact ae);have f0:=(uH I).free k;have R3:=ac ((uH I).set k u);have X3:=ac ((uH L).other (p:=⟨w.heap.size+1,k,none⟩) (show w.heap.size≠w.heap.size+1 by omega) (CI (u:Nat)));have B3:=ac ((uH M).setCell (p:=⟨w.heap.size+1,k,none⟩) (Nat.le_succ _) (CI (u:Nat)));have eV:=ac hu;generalize (El f q k)[k]?.getD 0=a6 at*;clear I L M N hx hu D am ap;go_wp2_with fail
   go_round
   case rel=>exact⟨k+1,by omega,by go_num,by rw[<-Bm,uH eV];exact R3,X3,B3⟩
   case measure=>first|(simp[intOf];done)|(simp[intOf];omega)
  ·have ax:k=q:=by omega
   subst ax;have HF:=ac (show bS wr (w.heap.size+1) (gI r c S)from by rw[uH FD,<-xf];exact uH I);go_wp2_with fail;exact bodyPost_ret (v:=.slice (some ⟨w.heap.size+1,0,none⟩) k k) (by simp[results,Tryz.results96,go_sem]) rfl ⟨_,rfl,Nat.le_succ _,uH HF,uH M⟩
theorem Av(r c p q er:Int)(t D F G:Nat)(H I:GY)(fo fd:Value)(w:World)(U:er=1\/er=4)
  (C1:∀l,H8 w l->BS 48 #[.agg #[C0 r,C0 c,.slice H t D],.agg #[C0 p,C0 q,.slice I F G]] l (C0 er)):
  BS 104 #[.agg #[C0 r,C0 c,.slice H t D],.agg #[C0 p,C0 q,.slice I F G],fo,fd] w (.tuple #[.agg #[C0 0,C0 0,.slice none 0 0],C0 er]):=by
 have KB:=ac (dh w (C0 r) (C0 c) (.slice H t D) (C0 p) (C0 q) (.slice I F G) (C0 0) (C0 0) (.slice none 0 0));obtain⟨b0,L,M,x2⟩:=uH KB _ (by have:=Below.refl (((w.alloc (.cells #[C0 r,C0 c,.slice H t D] 24)).alloc (.cells #[C0 p,C0 q,.slice I F G] 24)).alloc (.cells #[C0 0,C0 0,.slice none 0 0] 24)).heap.size (((w.alloc (.cells #[C0 r,C0 c,.slice H t D] 24)).alloc (.cells #[C0 p,C0 q,.slice I F G] 24)).alloc (.cells #[C0 0,C0 0,.slice none 0 0] 24));simpa only[an]using this);have K1:=ac (C1 _ b0);have O:=ac b0;have J:=ac L;have K:=ac M;have HR:=ac x2;have y0:=L.c0;have y1:=L.c1;have y2:=L.c2;have u0:=M.c0;have u1:=M.c1;have u2:=M.c2;clear C1 KB b0 L M x2;rcases U with rfl|rfl
 all_goals
  go_enter Tryz.func104,Tryz.ntmps104
  go_wp2_with fail;clear y0 y1 y2 u0 u1 u2;refine(uH K1).mono ?_;rintro e w1 ⟨rfl,N⟩;replace J:=ac ((uH J).all N);replace K:=ac ((uH K).all N);replace HR:=ac ((uH HR).all N);replace O:=ac ((uH O).trans (N.mono (uH O).size));clear N K1;have y0:=(uH J).c0;have y1:=(uH J).c1;have y2:=(uH J).c2;have u0:=(uH K).c0;have u1:=(uH K).c1;have u2:=(uH K).c2;clear y0 y1 y2 u0 u1 u2;have h:=uH HR;have f0:=h.free 0;have f1:=h.free 1;have f2:=h.free 2;have s0:=h.c0;have s1:=h.c1;have s2:=h.c2;have Q:=h.put (C0 0) (C0 0) (.slice none 0 0);have z0:=Q.c0;have z1:=Q.c1;have z2:=Q.c2;have BP:=ac (az (uH O) (b:=w.heap.size+1+1) (by omega) (C0 0) (C0 0) (.slice none 0 0));clear Q h;go_wp2_with fail;exact bodyPost_ret (v:=.tuple #[.agg #[C0 0,C0 0,.slice none 0 0],C0 _]) (by simp[results,Tryz.results104,go_sem,z0,z1,z2]) rfl ⟨rfl,uH BP⟩
theorem vq(r c p q:Int)(D F G H:Nat)(I J:GY)(fo fd:Value)(w:World)(l:¬r=c\/(r=c/\¬r=p))
  (C1:∀t,H8 w t->BS 48 #[.agg #[C0 r,C0 c,.slice I D F],.agg #[C0 p,C0 q,.slice J G H]] t (C0 0)):
  BS 104 #[.agg #[C0 r,C0 c,.slice I D F],.agg #[C0 p,C0 q,.slice J G H],fo,fd] w (.tuple #[.agg #[C0 0,C0 0,.slice none 0 0],C0 3]):=by
 have KB:=ac (dh w (C0 r) (C0 c) (.slice I D F) (C0 p) (C0 q) (.slice J G H) (C0 0) (C0 0) (.slice none 0 0));obtain⟨b0,M,N,x2⟩:=uH KB _ (by have:=Below.refl (((w.alloc (.cells #[C0 r,C0 c,.slice I D F] 24)).alloc (.cells #[C0 p,C0 q,.slice J G H] 24)).alloc (.cells #[C0 0,C0 0,.slice none 0 0] 24)).heap.size (((w.alloc (.cells #[C0 r,C0 c,.slice I D F] 24)).alloc (.cells #[C0 p,C0 q,.slice J G H] 24)).alloc (.cells #[C0 0,C0 0,.slice none 0 0] 24));simpa only[an]using this);have K1:=ac (C1 _ b0);have Q:=ac b0;have K:=ac M;have L:=ac N;have HR:=ac x2;have y0:=M.c0;have y1:=M.c1;have y2:=M.c2;have u0:=N.c0;have u1:=N.c1;have u2:=N.c2;clear C1 KB b0 M N x2;rcases l with l|⟨rfl,l⟩
 all_goals
  go_enter Tryz.func104,Tryz.ntmps104
  go_wp2_with fail;clear y0 y1 y2 u0 u1 u2;refine(uH K1).mono ?_;rintro e w1 ⟨rfl,O⟩;replace K:=ac ((uH K).all O);replace L:=ac ((uH L).all O);replace HR:=ac ((uH HR).all O);replace Q:=ac ((uH Q).trans (O.mono (uH Q).size));clear O K1;have y0:=(uH K).c0;have y1:=(uH K).c1;have y2:=(uH K).c2;have u0:=(uH L).c0;have u1:=(uH L).c1;have u2:=(uH L).c2;have h:=uH HR;have f0:=h.free 0;have f1:=h.free 1;have f2:=h.free 2;have s0:=h.c0;have s1:=h.c1;have s2:=h.c2;have U:=h.put (C0 0) (C0 0) (.slice none 0 0);have z0:=U.c0;have z1:=U.c1;have z2:=U.c2;have BP:=ac (az (uH Q) (b:=w.heap.size+1+1) (by omega) (C0 0) (C0 0) (.slice none 0 0));clear U h;go_wp2_with fail;exact bodyPost_ret (v:=.tuple #[.agg #[C0 0,C0 0,.slice none 0 0],C0 3]) (by simp[results,Tryz.results104,go_sem,z0,z1,z2]) rfl ⟨rfl,uH BP⟩
theorem xQ(r q:Int)(K L N O gn:Nat)(D:H3)(M Q:GY)(fo fd:Value)(w:World)
  (C1:∀h,H8 w h->BS 48 #[.agg #[C0 r,C0 r,.slice M K L],.agg #[C0 r,C0 q,.slice Q N O]] h (C0 0))
  (C2:∀h,H8 w h->GF 96 #[.agg #[C0 r,C0 r,.slice M K L]] h fun e t=>∃g,e=.returned (.slice (some ⟨g,0,none⟩) gn gn)/\h.heap.size<=g/\bS t g D/\H8 h t)
  (C3:∀h g,H8 w h->bS h g D->BS 99 #[.slice (some ⟨g,0,none⟩) gn gn,.func (.func 163) #[] #[]] h (.bool true)):
  BS 104 #[.agg #[C0 r,C0 r,.slice M K L],.agg #[C0 r,C0 q,.slice Q N O],fo,fd] w (.tuple #[.agg #[C0 0,C0 0,.slice none 0 0],C0 5]):=by
 have KB:=ac (dh w (C0 r) (C0 r) (.slice M K L) (C0 r) (C0 q) (.slice Q N O) (C0 0) (C0 0) (.slice none 0 0));obtain⟨b0,U,Z,x2⟩:=uH KB _ (by have:=Below.refl (((w.alloc (.cells #[C0 r,C0 r,.slice M K L] 24)).alloc (.cells #[C0 r,C0 q,.slice Q N O] 24)).alloc (.cells #[C0 0,C0 0,.slice none 0 0] 24)).heap.size (((w.alloc (.cells #[C0 r,C0 r,.slice M K L] 24)).alloc (.cells #[C0 r,C0 q,.slice Q N O] 24)).alloc (.cells #[C0 0,C0 0,.slice none 0 0] 24));simpa only[an]using this);have K1:=ac (C1 _ b0);have F:=ac b0;have G:=ac U;have H:=ac Z;have J:=ac x2;have K2:=ac C2;have K3:=ac C3;have y0:=U.c0;have y1:=U.c1;have y2:=U.c2;have u0:=Z.c0;have u1:=Z.c1;have u2:=Z.c2;clear C1 KB b0 U Z x2;clear C2 C3
 go_enter Tryz.func104,Tryz.ntmps104
 go_wp2_with fail;clear y0 y1 y2 u0 u1 u2;refine(uH K1).mono ?_;rintro e w1 ⟨rfl,l⟩;replace G:=ac ((uH G).all l);replace H:=ac ((uH H).all l);replace J:=ac ((uH J).all l);replace F:=ac ((uH F).trans (l.mono (uH F).size));clear l K1;have y0:=(uH G).c0;have y1:=(uH G).c1;have y2:=(uH G).c2;have u0:=(uH H).c0;have u1:=(uH H).c1;have u2:=(uH H).c2;go_wp2_with fail;clear y0 y1 y2 u0 u1 u2;refine(uH K2 _ (uH F)).mono ?_;rintro e w2 ⟨g,rfl,_,hr,l⟩;replace G:=ac ((uH G).all l);replace H:=ac ((uH H).all l);replace J:=ac ((uH J).all l);replace F:=ac ((uH F).trans (l.mono (uH F).size));have HG:=ac hr;clear l hr K2;go_wp2_with fail;refine(uH K3 _ _ (uH F) (uH HG)).mono ?_;rintro e w3 ⟨rfl,l⟩;replace G:=ac ((uH G).all l);replace H:=ac ((uH H).all l);replace J:=ac ((uH J).all l);replace F:=ac ((uH F).trans (l.mono (uH F).size));clear l HG K3;have I:=uH J;have f0:=I.free 0;have f1:=I.free 1;have f2:=I.free 2;have s0:=I.c0;have s1:=I.c1;have s2:=I.c2;have XP:=I.put (C0 0) (C0 0) (.slice none 0 0);have z0:=XP.c0;have z1:=XP.c1;have z2:=XP.c2;have BP:=ac (az (uH F) (b:=w.heap.size+1+1) (by omega) (C0 0) (C0 0) (.slice none 0 0));clear XP I;go_wp2_with fail;exact bodyPost_ret (v:=.tuple #[.agg #[C0 0,C0 0,.slice none 0 0],C0 5]) (by simp[results,Tryz.results104,go_sem,z0,z1,z2]) rfl ⟨rfl,uH BP⟩
theorem Aw(r q:Int)(K M O Q gn L:Nat)(D:H3)(N U:GY)(fo fd:Value)(w:World)
  (C1:∀h,H8 w h->BS 48 #[.agg #[C0 r,C0 r,.slice N K M],.agg #[C0 r,C0 q,.slice U O Q]] h (C0 0))
  (C2:∀h,H8 w h->GF 96 #[.agg #[C0 r,C0 r,.slice N K M]] h fun e F=>∃g,e=.returned (.slice (some ⟨g,0,none⟩) gn gn)/\h.heap.size<=g/\bS F g D/\H8 h F)
  (C3:∀h g,H8 w h->bS h g D->BS 99 #[.slice (some ⟨g,0,none⟩) gn gn,.func (.func 163) #[] #[]] h (.bool false))
  (C4:∀h,H8 w h->GF 165 #[.agg #[C0 r,C0 r,.slice N K M],.agg #[C0 r,C0 q,.slice U O Q],fo,fd] h fun e F=>∃xo xc,e=.returned (.tuple #[.agg #[C0 r,C0 q,.slice xo L xc],.bool false])/\H8 h F):
  BS 104 #[.agg #[C0 r,C0 r,.slice N K M],.agg #[C0 r,C0 q,.slice U O Q],fo,fd] w (.tuple #[.agg #[C0 0,C0 0,.slice none 0 0],C0 2]):=by
 have KB:=ac (dh w (C0 r) (C0 r) (.slice N K M) (C0 r) (C0 q) (.slice U O Q) (C0 0) (C0 0) (.slice none 0 0));obtain⟨b0,x0,x1,x2⟩:=uH KB _ (by have:=Below.refl (((w.alloc (.cells #[C0 r,C0 r,.slice N K M] 24)).alloc (.cells #[C0 r,C0 q,.slice U O Q] 24)).alloc (.cells #[C0 0,C0 0,.slice none 0 0] 24)).heap.size (((w.alloc (.cells #[C0 r,C0 r,.slice N K M] 24)).alloc (.cells #[C0 r,C0 q,.slice U O Q] 24)).alloc (.cells #[C0 0,C0 0,.slice none 0 0] 24));simpa only[an]using this);have K1:=ac (C1 _ b0);have t:=ac b0;have G:=ac x0;have H:=ac x1;have I:=ac x2;have K2:=ac C2;have K3:=ac C3;have K4:=ac C4;have Z:=x0.c0;have y1:=x0.c1;have y2:=x0.c2;have u0:=x1.c0;have u1:=x1.c1;have u2:=x1.c2;clear C1 KB b0 x0 x1 x2;clear C2 C3 C4
 go_enter Tryz.func104,Tryz.ntmps104
 go_wp2_with fail;clear Z y1 y2 u0 u1 u2;refine(uH K1).mono ?_;rintro e w1 ⟨rfl,l⟩;replace G:=ac ((uH G).all l);replace H:=ac ((uH H).all l);replace I:=ac ((uH I).all l);replace t:=ac ((uH t).trans (l.mono (uH t).size));clear l K1;have Z:=(uH G).c0;have y1:=(uH G).c1;have y2:=(uH G).c2;have u0:=(uH H).c0;have u1:=(uH H).c1;have u2:=(uH H).c2;go_wp2_with fail;clear Z y1 y2 u0 u1 u2;refine(uH K2 _ (uH t)).mono ?_;rintro e w2 ⟨g,rfl,_,hr,l⟩;replace G:=ac ((uH G).all l);replace H:=ac ((uH H).all l);replace I:=ac ((uH I).all l);replace t:=ac ((uH t).trans (l.mono (uH t).size));have HG:=ac hr;clear l hr K2;go_wp2_with fail;refine(uH K3 _ _ (uH t) (uH HG)).mono ?_;rintro e w3 ⟨rfl,l⟩;replace G:=ac ((uH G).all l);replace H:=ac ((uH H).all l);replace I:=ac ((uH I).all l);replace t:=ac ((uH t).trans (l.mono (uH t).size));clear l HG K3;have Z:=(uH G).c0;have y1:=(uH G).c1;have y2:=(uH G).c2;have u0:=(uH H).c0;have u1:=(uH H).c1;have u2:=(uH H).c2;go_wp2_with fail;clear Z y1 y2 u0 u1 u2;refine(uH K4 _ (uH t)).mono ?_;rintro e w4 ⟨xo,xc,rfl,l⟩;replace I:=ac ((uH I).all l);have aa:=ac (uH t);replace t:=ac ((uH t).trans (l.mono (uH t).size));have ba:=ad w4 (.cells #[C0 r,C0 q,.slice xo L xc] 24);have XX:=ac (aE.new w4 (C0 r) (C0 q) (.slice xo L xc));replace I:=ac ((uH I).all ba);replace t:=ac ((uH t).trans (ba.mono (uH t).size));clear l ba K4 G H;clear XX;have J:=uH I;have f0:=J.free 0;have f1:=J.free 1;have f2:=J.free 2;have s0:=J.c0;have s1:=J.c1;have s2:=J.c2;have XP:=J.put (C0 0) (C0 0) (.slice none 0 0);have z0:=XP.c0;have z1:=XP.c1;have z2:=XP.c2;have BP:=ac (az (uH t) (b:=w.heap.size+1+1) (by omega) (C0 0) (C0 0) (.slice none 0 0));clear XP J;go_wp2_with fail;exact bodyPost_ret (v:=.tuple #[.agg #[C0 0,C0 0,.slice none 0 0],C0 2]) (by simp[results,Tryz.results104,go_sem,z0,z1,z2]) rfl ⟨rfl,uH BP⟩
theorem D6(r q:Int)(N O U Z gn L:Nat)(D X:H3)(Q bo:GY)(fo fd:Value)(w:World)
  (C1:∀h,H8 w h->BS 48 #[.agg #[C0 r,C0 r,.slice Q N O],.agg #[C0 r,C0 q,.slice bo U Z]] h (C0 0))
  (C2:∀h,H8 w h->GF 96 #[.agg #[C0 r,C0 r,.slice Q N O]] h fun e F=>∃g,e=.returned (.slice (some ⟨g,0,none⟩) gn gn)/\h.heap.size<=g/\bS F g D/\H8 h F)
  (C3:∀h g,H8 w h->bS h g D->BS 99 #[.slice (some ⟨g,0,none⟩) gn gn,.func (.func 163) #[] #[]] h (.bool false))
  (C4:∀h,H8 w h->GF 165 #[.agg #[C0 r,C0 r,.slice Q N O],.agg #[C0 r,C0 q,.slice bo U Z],fo,fd] h fun e F=>∃G J,e=.returned (.tuple #[.agg #[C0 r,C0 q,.slice G L J],.bool true])/\dw h.heap.size G (aX X)/\ag F G J (aX X)/\H8 h F):
  GF 104 #[.agg #[C0 r,C0 r,.slice Q N O],.agg #[C0 r,C0 q,.slice bo U Z],fo,fd] w fun e h=>∃G J,e=.returned (.tuple #[.agg #[C0 r,C0 q,.slice G L J],C0 0])/\dw w.heap.size G (aX X)/\ag h G J (aX X)/\H8 w h:=by
 have KB:=ac (dh w (C0 r) (C0 r) (.slice Q N O) (C0 r) (C0 q) (.slice bo U Z) (C0 0) (C0 0) (.slice none 0 0));obtain⟨b0,x0,x1,x2⟩:=uH KB _ (by have:=Below.refl (((w.alloc (.cells #[C0 r,C0 r,.slice Q N O] 24)).alloc (.cells #[C0 r,C0 q,.slice bo U Z] 24)).alloc (.cells #[C0 0,C0 0,.slice none 0 0] 24)).heap.size (((w.alloc (.cells #[C0 r,C0 r,.slice Q N O] 24)).alloc (.cells #[C0 r,C0 q,.slice bo U Z] 24)).alloc (.cells #[C0 0,C0 0,.slice none 0 0] 24));simpa only[an]using this);have K1:=ac (C1 _ b0);have t:=ac b0;have H:=ac x0;have I:=ac x1;have K:=ac x2;have K2:=ac C2;have K3:=ac C3;have K4:=ac C4;have y0:=x0.c0;have y1:=x0.c1;have y2:=x0.c2;have u0:=x1.c0;have u1:=x1.c1;have u2:=x1.c2;clear C1 KB b0 x0 x1 x2;clear C2 C3 C4
 go_enter Tryz.func104,Tryz.ntmps104
 go_wp2_with fail;clear y0 y1 y2 u0 u1 u2;refine(uH K1).mono ?_;rintro e w1 ⟨rfl,l⟩;replace H:=ac ((uH H).all l);replace I:=ac ((uH I).all l);replace K:=ac ((uH K).all l);replace t:=ac ((uH t).trans (l.mono (uH t).size));clear l K1;have y0:=(uH H).c0;have y1:=(uH H).c1;have y2:=(uH H).c2;have u0:=(uH I).c0;have u1:=(uH I).c1;have u2:=(uH I).c2;go_wp2_with fail;clear y0 y1 y2 u0 u1 u2;refine(uH K2 _ (uH t)).mono ?_;rintro e w2 ⟨g,rfl,_,hr,l⟩;replace H:=ac ((uH H).all l);replace I:=ac ((uH I).all l);replace K:=ac ((uH K).all l);replace t:=ac ((uH t).trans (l.mono (uH t).size));have HG:=ac hr;clear l hr K2;go_wp2_with fail;refine(uH K3 _ _ (uH t) (uH HG)).mono ?_;rintro e w3 ⟨rfl,l⟩;replace H:=ac ((uH H).all l);replace I:=ac ((uH I).all l);replace K:=ac ((uH K).all l);replace t:=ac ((uH t).trans (l.mono (uH t).size));clear l HG K3;have y0:=(uH H).c0;have y1:=(uH H).c1;have y2:=(uH H).c2;have u0:=(uH I).c0;have u1:=(uH I).c1;have u2:=(uH I).c2;go_wp2_with fail;clear y0 y1 y2 u0 u1 u2;refine(uH K4 _ (uH t)).mono ?_;rintro e w4 ⟨G,J,rfl,hn,hq,l⟩;replace K:=ac ((uH K).all l);have aa:=ac (uH t);replace t:=ac ((uH t).trans (l.mono (uH t).size));have ba:=ad w4 (.cells #[C0 r,C0 q,.slice G L J] 24);have XX:=ac (aE.new w4 (C0 r) (C0 q) (.slice G L J));replace K:=ac ((uH K).all ba);replace t:=ac ((uH t).trans (ba.mono (uH t).size));have HN:=ac (hn.least (uH aa).size);have HQ:=ac (hq.below ba);clear hn hq aa;clear l ba K4 H I;have M:=uH K;have f0:=M.free 0;have f1:=M.free 1;have f2:=M.free 2;have s0:=M.c0;have s1:=M.c1;have s2:=M.c2;have v0:=(uH XX).c0;have v1:=(uH XX).c1;have v2:=(uH XX).c2;have XP:=M.put (C0 r) (C0 q) (.slice G L J);have z0:=XP.c0;have z1:=XP.c1;have z2:=XP.c2;have BP:=ac (az (uH t) (b:=w.heap.size+1+1) (by omega) (C0 r) (C0 q) (.slice G L J));have QP:=ac ((uH HQ).putM M (C0 r) (C0 q) (.slice G L J));clear XP M;go_wp2_with fail;exact bodyPost_ret (v:=.tuple #[.agg #[C0 r,C0 q,.slice G L J],C0 0]) (by simp[results,Tryz.results104,go_sem,z0,z1,z2]) rfl ⟨_,_,rfl,uH HN,uH QP,uH BP⟩
theorem Ax(a b:Nat)(w:World)(D:a<18446744073709551616)(F:b<18446744073709551616):
  BS 101 #[CI a,CI b] w (.bool (Qq a b)):=by
 have C:=fun h=>rm a b h D F
 have G:cB a b=false->cO a b=0:=by
  unfold cB cO
  split
  ·intro _;rfl
  ·intro e;cases e
 have l:cO a b= -1\/cO a b=0\/cO a b=1:=by
  unfold cO bY
  repeat' split
  all_goals simp
 unfold Qq
 cases hc:cB a b
 ·have t:=G hc
  rw[t,hc]at C;rw[t];exact qe a b 0 false false false w (.inl ⟨rfl,rfl,rfl,rfl⟩) C
 ·rw[hc]at C
  rcases l with e|e|e
  ·rw[e]at C⊢
   exact qe a b (-1) true true false w (.inr (.inl ⟨rfl,rfl,rfl,rfl⟩)) C
  ·rw[e]at C⊢
   exact qe a b 0 true false true w (.inr (.inr (.inl ⟨rfl,rfl,rfl,rfl⟩))) C
  ·rw[e]at C⊢
   exact qe a b 1 true false false w (.inr (.inr (.inr ⟨rfl,rfl,rfl,rfl⟩))) C
theorem LZ(args:Array Value)(w:World):(callFunc 100 args).run Tryz.prog w=.ok (.enter 100 args) w:=by
 simp only[callFunc,go_sem];rfl
theorem D7(args:Array Value)(w:World):(callFunc 163 args).run Tryz.prog w=.ok (.enter 163 args) w:=by
 simp only[callFunc,go_sem];rfl
theorem Hy(x b a g:Nat)(o:Bool)(w:World)(G:w.cell? ⟨g,0,none⟩=some (CI (b:Nat)))
  (H:∀l,H8 w l->BS 102 #[CI x] l (CI (a:Nat)))
  (I:∀l,H8 w l->BS 101 #[CI b,CI a] l (.bool o)):
  BS 100 #[CI x,.pointer (some ⟨g,0,none⟩)] w (.bool (!o)):=by
 have K:=ac H;have L:=ac I;have J:=ac (fun l (h:H8 w l)=>(show H8 w l/\l.cell? ⟨g,0,none⟩=some (CI (b:Nat))from⟨h,ay G h⟩));clear H I G
 go_enter Tryz.func100,Tryz.ntmps100
 go_wp2_with fail
 go_region_held3(fun l=>H8 w l/\l.cell? ⟨g,0,none⟩=some (CI (b:Nat)))
  (first|exact uH J _ (Below.refl _ _).drew|exact uH J _ (by assumption)|fail "KK")
  (first|(go_at_call 102;refine(uH K _ (And.left (by assumption))).mono ?_;rintro e O ⟨rfl,D⟩;have M:H8 w O:=Below.trans (And.left (by assumption)) (D.mono (Below.size (And.left (by assumption))));clear D)|(go_at_call 101;refine(uH L _ (And.left (by assumption))).mono ?_;rintro e Q ⟨rfl,F⟩;have N:H8 w Q:=Below.trans (And.left (by assumption)) (F.mono (Below.size (And.left (by assumption))));clear F)|fail "NO ARM")
 go_wp2
 go_ret
 exact⟨rfl,And.left (by assumption)⟩
theorem xR(x:Nat)(w:World)(t:x<18446744073709551616):
  BS 163 #[CI x] w (.bool (decide (fK x=0))):=by
 have K:=ac (dp x w t);have h:((fK x:Int)==0)=decide (fK x=0):=by
  rw[Bool.eq_iff_iff]
  simp
 generalize H:decide (fK x=0)=b at*;generalize fK x=k at*
 go_enter Tryz.func163,Tryz.ntmps163
 go_wp2_with fail;refine(uH K).mono ?_;rintro e G ⟨rfl,l⟩;have F:=ac l;clear l K
 go_wp2
 go_ret
 exact⟨by first|(rw[h];done)|(rw[h];rfl)|simp,uH F⟩
theorem L8(r c n cap q M s:Nat)(ao:GY)(D:H3)(o:Bool)(w:World)
  (N:∀h,H8 w h->BS 63 #[.agg #[C0 r,C0 c,.slice ao n cap]] h (C0 0))
  (O:∀h,H8 w h->GF 96 #[.agg #[C0 r,C0 c,.slice ao n cap]] h fun e t=>∃g,e=.returned (.slice (some ⟨g,0,none⟩) q q)/\h.heap.size<=g/\bS t g D/\H8 h t)
  (Q:∀h g,H8 w h->bS h g D->BS 98 #[.slice (some ⟨g,0,none⟩) q q] h (CI (M:Nat)))
  (U:∀h,H8 w h->BS 97 #[CI M,C0 (-40)] h (CI (s:Nat)))
  (Z:∀h g b,H8 w h->bS h g D->h.cell? ⟨b,0,none⟩=some (CI (s:Nat))->BS 99 #[.slice (some ⟨g,0,none⟩) q q,.func (.func 100) #[] #[.pointer (some ⟨b,0,none⟩)]] h (.bool o)):
  BS 50 #[.agg #[C0 r,C0 c,.slice ao n cap]] w (.tuple #[.bool o,C0 0]):=by
 have l:=ac (ad w (.cells #[C0 r,C0 c,.slice ao n cap] 24));have H:=ac (aE.new w (C0 r) (C0 c) (.slice ao n cap));have K1:=ac (N _ (uH l));have K2:=ac O;have K3:=ac Q;have K4:=ac U;have K5:=ac Z;have I:=(uH H).c0;have J:=(uH H).c1;have K:=(uH H).c2;clear N O Q U Z
 go_enter Tryz.func50,Tryz.ntmps50
 go_wp2_with fail;clear I J K;refine(uH K1).mono ?_;rintro e w1 ⟨rfl,F⟩;replace H:=ac ((uH H).all F);replace l:=ac ((uH l).trans (F.mono (uH l).size));clear F K1;have I:=(uH H).c0;have J:=(uH H).c1;have K:=(uH H).c2;go_wp2_with fail;clear I J K;refine(uH K2 _ (uH l)).mono ?_;rintro e w2 ⟨g,rfl,_,hr,F⟩;replace l:=ac ((uH l).trans (F.mono (uH l).size));have G:=ac hr;clear F hr K2 H;go_wp2_with fail;refine(uH K3 _ _ (uH l) (uH G)).mono ?_;rintro e w3 ⟨rfl,F⟩;replace l:=ac ((uH l).trans (F.mono (uH l).size));replace G:=ac ((uH G).below F (uH G).lt);clear F K3;go_wp2_with fail;refine(uH K4 _ (uH l)).mono ?_;rintro e w4 ⟨rfl,F⟩;replace l:=ac ((uH l).trans (F.mono (uH l).size));replace G:=ac ((uH G).below F (uH G).lt);have L:=ad w4 (.cells #[CI (s:Nat)] 69);have HC:=ac (d9 w4 (CI (s:Nat)) 69);replace l:=ac ((uH l).trans (L.mono (uH l).size));replace G:=ac ((uH G).below L (uH G).lt);clear F L K4;go_wp2_with fail;refine(uH K5 _ _ _ (uH l) (uH G) (uH HC)).mono ?_;rintro e w5 ⟨rfl,F⟩;replace l:=ac ((uH l).trans (F.mono (uH l).size));clear F K5 G HC;go_wp2_with fail;exact bodyPost_ret (v:=.tuple #[.bool o,C0 0]) (by simp[results,Tryz.results50,go_sem]) rfl ⟨rfl,uH l⟩
theorem sf{w:World}{ao:GY}{cap r c:Nat}{S:H3}(h:Mx w ao cap r c S)(l:cF S=true):qm (r:Int) (c:Int) (aX S)=0:=by
 unfold qm;rw[aC,pw h];have:iD (aX S) S.length=true:=l;rw[this];rfl
theorem si{w:World}{ao:GY}{cap r c:Nat}{S:H3}(h:Mx w ao cap r c S):∀x∈gI r c S,x<18446744073709551616:=by
 intro x l;obtain⟨i,_,rfl⟩:=List.mem_map.1 l;exact h.el_lt _ _
theorem xS{l:H3}(h:∀x∈l,x<18446744073709551616)(k:Nat):l.getD k 0<18446744073709551616:=by
 rw[List.getD_eq_getElem?_getD];rcases Nat.lt_or_ge k l.length with g|g
 ·rw[List.getElem?_eq_getElem g];exact h _ (List.getElem_mem g)
 ·rw[List.getElem?_eq_none g];decide
theorem o6{w:World}{g q:Nat}{l:H3}(h:bS w g l)(t:l.length=q)(D:∀x∈l,x<18446744073709551616):ag w (some ⟨g,0,none⟩) q (aX l):=by
 have:=h.bits D
 rwa[t]at this
def O9(n:Nat)(T M:H3):Int:=if O7 (gI n n T)=true then 5 else if cF M=true then 0 else 2
def ov(w w':World)(f:Int)(n q:Nat)(M:H3)(e:Ending):Prop:=
 (f=0/\∃xo xc,e=.returned (.tuple #[.agg #[C0 n,C0 q,.slice xo (n*q) xc],C0 0])/\dw w.heap.size xo (aX M)/\ag w' xo xc (aX M)/\M.length=n*q/\cF M=true)\/
 (f≠0/\e=.returned (.tuple #[.agg #[C0 0,C0 0,.slice none 0 0],C0 f]))
theorem D8(n q D G K L:Nat)(F H:GY)(T B:H3)(o:Nat->Nat)(J:Nat->Nat->Bool)(w:World)(I:Mx w F D n n T)(Z:Mx w H G n q B)(fT:cF T=true)(fB:cF B=true)(hO:DZ n o)
  (aa:∀args w,(callFunc K args).run Tryz.prog w=.ok (.enter K args) w) (ae:∀args w,(callFunc L args).run Tryz.prog w=.ok (.enter L args) w)
  (CO:∀h m,m<n->BS K #[C0 n,C0 (m:Nat)] h (C0 (o m:Nat)))
  (CD:∀h i k,i<n->k<n->BS L #[C0 (i:Nat),C0 (k:Nat)] h (.bool (J i k))) (M:cX w):
  GF 104 #[.agg #[C0 n,C0 n,.slice F T.length D],.agg #[C0 n,C0 q,.slice H B.length G],.func (.func K) #[C0 n] #[],.func (.func L) #[] #[]] w fun e h=>
   ov w h (O9 n T (xN n q (a8 n T) (a8 q B) o J)) n q (xN n q (a8 n T) (a8 q B) o J) e/\H8 w h:=by
 have n6:=I.2.2.1;have hm:min n n=n:=Nat.min_self n;have am:=I.small;have ap:=Z.small;have C1:∀h,H8 w h->BS 48 #[.agg #[C0 n,C0 n,.slice F T.length D],.agg #[C0 n,C0 q,.slice H B.length G]] h (C0 0):=fun h t=>by
  have:=lh n n n q F H D G (aX T) (aX B) h (I.1.below t) (Z.1.below t) (by rw[aC];omega) (by rw[aC];omega);rw[aC,aC]at this;unfold Hx at this;rw[if_pos (sf I fT),sf Z fB]at this;exact this
 have C2:∀h,H8 w h->GF 96 #[.agg #[C0 n,C0 n,.slice F T.length D]] h fun e l=>∃g,e=.returned (.slice (some ⟨g,0,none⟩) n n)/\h.heap.size<=g/\bS l g (gI n n T)/\H8 h l:=fun h t=>
  ou n n D n F T h (I.below t) hm
 have N:∀h g,H8 w h->bS h g (gI n n T)->BS 99 #[.slice (some ⟨g,0,none⟩) n n,.func (.func 163) #[] #[]] h (.bool (O7 (gI n n T))):=fun h g t hr=>
  ud 163 #[] (some ⟨g,0,none⟩) n n (gI n n T) (fun x=>decide (fK x=0)) h (by rw[vk,hm]) (by omega) (o6 hr (by rw[vk,hm]) (si I)) D7 (fun l k _ _=>xR _ l (xS (si I) k))
 have C4:=fun h (t:H8 w h)=>As n q D G T.length B.length (n*q) K L F H T B o J h (I.below t) (Z.below t) rfl rfl rfl hO aa ae CO CD (M.all t)
 unfold O9
 cases hz:O7 (gI n n T)with
 |true=>
  rw[hz]at N;refine(xQ n q T.length D B.length G n (gI n n T) F H _ _ w C1 C2 N).mono ?_;rintro e h ⟨rfl,t⟩;exact⟨.inr ⟨by simp,by simp⟩,t⟩
 |false=>
  rw[hz]at N;rw[if_neg (by decide)]
  cases hf:cF (xN n q (a8 n T) (a8 q B) o J)with
  |true=>
   rw[if_pos rfl];refine(D6 n q T.length D B.length G n (n*q) (gI n n T) (xN n q (a8 n T) (a8 q B) o J) F H _ _ w C1 C2 N (fun h t=>(C4 h t).mono ?_)).mono ?_
   ·rintro e l ⟨S,O,Q,U,e2,e3,e4,e5,e6⟩
    rw[hf]at U;rw[e2 hf]at e4 e5;exact⟨O,Q,U,e4,e5,e6⟩
   ·rintro e h ⟨O,Q,rfl,h1,h2,t⟩
    exact⟨.inl ⟨rfl,O,Q,rfl,h1,h2,qs _ _ _ _ _ _,hf⟩,t⟩
  |false=>
   rw[if_neg (by decide)];refine(Aw n q T.length D B.length G n (n*q) (gI n n T) F H _ _ w C1 C2 N (fun h t=>(C4 h t).mono ?_)).mono ?_
   ·rintro e l ⟨S,O,Q,U,e2,e3,e4,e5,e6⟩
    rw[hf]at U;exact⟨O,Q,U,e6⟩
   ·rintro e h ⟨rfl,t⟩
    exact⟨.inr ⟨by decide,rfl⟩,t⟩
def pD(r c p q:Int)(I J:List Int):Int:=if Hx r c I p q J=0 then(if r=c/\r=p then 0 else 3)else Hx r c I p q J
theorem D9(r c p q:Int)(ao t:GY)(cap d:Nat)(I J:List Int)(F G:Value)(w:World)(L:ag w ao cap I)(M:ag w t d J)(N:I.length<=35184372088830)(O:J.length<=35184372088830)(h:pD r c p q I J≠0):
  BS 104 #[.agg #[C0 r,C0 c,.slice ao I.length cap],.agg #[C0 p,C0 q,.slice t J.length d],F,G] w (.tuple #[.agg #[C0 0,C0 0,.slice none 0 0],C0 (pD r c p q I J)]):=by
 have C:=fun D (K:H8 w D)=>lh r c p q ao t cap d I J D (L.below K) (M.below K) N O
 unfold pD at h⊢
 by_cases l:Hx r c I p q J=0
 ·rw[if_pos l]at h⊢
  rw[l]at C
  by_cases H:r=c/\r=p
  ·rw[if_pos H]at h;exact absurd rfl h
  ·rw[if_neg H]
   refine vq r c p q I.length cap J.length d ao t F G w ?_ C
   by_cases e:r=c
   ·exact .inr ⟨e,fun Q=>H ⟨e,Q⟩⟩
   ·exact .inl e
 ·rw[if_neg l]at h⊢
  refine Av r c p q (Hx r c I p q J) I.length cap J.length d ao t F G w ?_ C;unfold Hx at l⊢
  split at l
  ·rename_i g
   rw[if_pos g];rcases ue p q J with e|e|e
   ·exact absurd e l
   ·exact .inl e
   ·exact .inr e
  ·rename_i g
   rw[if_neg g];rcases ue r c I with e|e|e
   ·exact absurd e g
   ·exact .inl e
   ·exact .inr e
end Go.Proofs.YtcbcmlaogehimaaGreatDoor
