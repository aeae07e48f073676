/- Part 53 of the texts. -/
import Derived.Test.YtmpkkhackbpflaaGreatDoorPartg52
set_option maxHeartbeats 8000000
set_option maxRecDepth 20000
namespace Go.Proofs.YtmpkkhackbpflaaGreatDoor
open Go.ChangeShapes Go.WideShapes Go.ChangeAt Go.RowKit Go.Joins Go.Deep
theorem tP{W:World}{a:Addr}{v:Value}(h:W.cell? a=some v):a.spot=none∧a.block<W.heap.size:=⟨World.cell?_spot h,World.block_lt_of_cell? W _ h⟩
theorem wG(b d i:Nat):(⟨b,d,none⟩:Addr).add i=⟨b,d+i,none⟩:=by simp[Addr.add]
def Mn(w:World)(ao:Option Addr)(cap:Nat)(I:List Int):Prop:=
 I.length≤cap∧(∀x∈I,-128≤x∧x≤127)∧(I= []∨∃b off,ao=some ⟨b,off,none⟩∧b<w.heap.size∧∀i,i<I.length→w.cell? ⟨b,off+i,none⟩=some (.int .i8 (I[i]?.getD 0)))
theorem Tryz.cellsInt8:Tryz.prog.cellsOf 31=1:=by kernel_rfl
theorem Tryz.bytesInt8:Tryz.prog.bytesOf 31=1:=by kernel_rfl
theorem tQ{x:Int}(h:(Lit.int .i8 x).wf=true):-128≤x∧x≤127:=by
 simp[Lit.wf,IntKind.min,IntKind.max,IntKind.signed,IntKind.bits]at h
 omega
theorem su{x:Int}(h:(Lit.int .u8 x).wf=true):∃n:Nat,x=(n:Int)∧n<256:=by
 simp[Lit.wf,IntKind.min,IntKind.max,IntKind.signed,IntKind.bits]at h
 exact⟨x.toNat,by omega,by omega⟩
theorem wH{H:Type}{enc:TypeId×Value→H}{W:World}{J:Nat}{v:Value}{d:DataW H}{p:List MemPlace}(L:Value.okWide Tryz.prog W .any J 22 v)(h:DataW.Trod enc Tryz.prog W 0 (fun _=>true) true 22 v d p)
  (Y:∀n∈d.weights Tryz.prog 22,n≤reachBytes):∃U F I,v=.slice U I.length F∧Mn W U F I∧I.length≤281474976710656:=by
 obtain⟨a0,l,D,rfl⟩:=okWide_slice Tryz.underlying22 L
 obtain⟨X,hf⟩:=h
 rcases open_ints Tryz.underlying22 Tryz.underlying31 Tryz.cellsInt8 hf with⟨t,_⟩|⟨a,aa,F,zs,t,_,hl,hm,hz,O,z,T⟩
 ·simp[Value.cells]at t
  obtain⟨rfl,rfl,rfl⟩:=t
  exact⟨none,0,[],rfl,⟨by simp,by simp,.inl rfl⟩,by simp⟩
 ·simp[Value.cells]at t
  obtain⟨rfl,rfl,rfl⟩:=t
  simp only[Prod.mk.injEq]at O
  obtain⟨rfl,-⟩:=O
  have Z:zs.length=D:=by simpa using hz
  have hk:=Y ((zs.length)*1) (by
   simp only[DataW.weights,Tryz.underlying22,List.mem_cons,Tryz.bytesInt8,lits,List.length_map,List.length_take,List.length_drop]
   left
   omega)
  simp only[reachBytes]at hk
  have M:(zs.take l).length=l:=by simp;omega
  refine⟨some a,D,zs.take l,by rw[M],⟨by omega,fun x O=>tQ (T x (List.mem_of_mem_take O)),?_⟩,by omega⟩
  rcases Nat.eq_zero_or_pos l with rfl|hp
  ·left;simp
  ·right
   obtain⟨b,Q,N⟩:=a
   obtain⟨e1,e2⟩:=tP (z 0 (by omega))
   have G:N=none:=by simpa[Addr.add]using e1
   subst G
   refine⟨b,Q,rfl,by simpa[Addr.add]using e2,fun i hi=>?_⟩
   have V:=z i (by omega)
   rw[wG]at V
   rw[V,List.getElem?_take,if_pos (by omega),List.getD_eq_getElem?_getD]
end Go.Proofs.YtmpkkhackbpflaaGreatDoor
namespace Go.Proofs.YtmpkkhackbpflaaGreatDoor
open Go.RowKit
attribute [local go_sem ↓] Go.wp_at_zero Go.wp_at_succ
theorem rh(p q a b n m J:Nat)(ao:Option Addr)(I:List Int)(w:World)(hI:Mn w ao J I)(hm:I.length=m)(aD:m≤281474976710656)(ha:p%5=a)(l:q%5=b)(hp:p<256)(hq:q<256)
  (T:Nat→List Nat) (R v:Nat→Nat) (Q L:List Nat) (tn:Int) (lT:∀k,(T k).length=n) (hV:∀k,∀x∈T k,x<18446744073709551616) (hS:∀k,k<n→k<m→(T k).set k (v k)=T (k+1)) (hR:∀k,k<m→floatOfInt .f64 (Int.tmod (nZ I k) 5)=R k) (KN:Nat) (M:∀k,k≤n→k≤m→¬(k<n∧k<m)→k=KN)
  (C1:∀d,Calls Tryz.prog 9 #[.int .i64 a,.int .i64 b] d fun e h=>∃g,e=.returned (.agg #[.int .i64 a,.int .i64 b,.slice (some ⟨g,0,none⟩) n n])∧d.heap.size≤g∧bI h g (T 0)∧Below d.heap.size d h)
  (CB:∀d k,k<m→Calls Tryz.prog 10 #[.float .f64 (R k)] d fun e h=>e=.returned (.int .u64 (v k:Nat))∧d=h)
  (CF:∀d N O,Below w.heap.size w d→ak d N O (bs (T KN))→Calls Tryz.prog 11 #[.agg #[.int .i64 a,.int .i64 b,.slice N n O]] d fun e h=>∃x y lo lc,e=.returned (.tuple #[x,y,.slice lo b lc,.int .i64 0])∧dc d.heap.size h a a Q x∧dc d.heap.size h a b L y∧Below d.heap.size d h)
  (CT:∀d ro rc,Below w.heap.size w d→ak d ro rc (bs L)→Calls Tryz.prog 12 #[.agg #[.int .i64 a,.int .i64 b,.slice ro L.length rc]] d fun e h=>e=.returned (.tuple #[.int .i64 tn,.int .i64 0])∧Below d.heap.size d h)
  (CR:∀d N O,ak d N O (bs (T KN))→Calls Tryz.prog 13 #[.agg #[.int .i64 a,.int .i64 b,.slice N n O]] d fun e h=>e=.returned (.int .i64 tn)∧Below d.heap.size d h)
  (CE:∀d,Calls Tryz.prog 14 #[.int .u64 4607182418800017408] d fun e h=>e=.returned (.int .i64 0)∧Below d.heap.size d h)
  (CA:∀d,Below w.heap.size w d→Calls Tryz.prog 15 #[] d fun e h=>e=.returned (.bool true)∧Below d.heap.size d h):
  Calls Tryz.prog 3 #[.int .u8 p,.int .u8 q,.slice ao m J] w fun e d=>e=.returned (.bool true)∧Below w.heap.size w d:=by
 have K1:=ac C1;have KB:=ac CB;have KF:=ac CF;have KT:=ac CT;have KR:=ac CR;have KE:=ac CE;have KA:=ac CA
 have HI:=ac hI;have HM:=ac hm;have LT:=ac lT;have HV:=ac hV;have HS:=ac hS;have HR:=ac hR;have aa:=ac M
 clear CB CF CT CR CE CA hI hm lT hV hS hR M
 have e1:Int.tmod (p:Int) 5=(a:Int):=by rw[←ha];exact(Int.tmod_eq_emod_of_nonneg (by omega)).trans (by omega)
 have e2:Int.tmod (q:Int) 5=(b:Int):=by rw[←l];exact(Int.tmod_eq_emod_of_nonneg (by omega)).trans (by omega)
 have a5:a<5:=by omega
 have b5:b<5:=by omega
 have f1:IntKind.u8.wrap (a:Int)=(a:Int):=by simp[IntKind.wrap,IntKind.signed,IntKind.bits];omega
 have f2:IntKind.u8.wrap (b:Int)=(b:Int):=by simp[IntKind.wrap,IntKind.signed,IntKind.bits];omega
 have g1:IntKind.i64.wrap (a:Int)=(a:Int):=br _ (by omega)
 have g2:IntKind.i64.wrap (b:Int)=(b:Int):=br _ (by omega)
 clear ha l C1 hp hq
 go_enter Tryz.func3,Tryz.ntmps3
 go_wp2_with fail
 clear e1 e2 f1 f2 g1 g2
 refine(uH K1 _).mono ?_
 rintro e w1 ⟨g,rfl,hg,hr,l⟩
 have ba:=ag w1 (.cells #[.int .i64 a,.int .i64 b,.slice (some ⟨g,0,none⟩) n n] 25)
 have X0:=ac (aT.new w1 (.int .i64 a) (.int .i64 b) (.slice (some ⟨g,0,none⟩) n n))
 have R0:=ac (hr.below ba hr.lt)
 have B0:=ac (l.trans (ba.mono l.size))
 have ad:=ac (show g<w1.heap.size from hr.lt)
 have HG:=ac hg
 clear hr l ba hg K1
 go_wp2_with fail
 generalize w1.heap.size=gm at*
 go_loopw[8] (fun i wr=>∃k:Nat,k≤n∧k≤m∧i=.int .i64 k∧Hid (aT wr gm (.int .i64 a) (.int .i64 b) (.slice (some ⟨g,0,none⟩) n n))∧Hid (bI wr g (T k))∧Hid (Below w.heap.size w wr)) (fun i _=>n-(intOf i).toNat)
 case atStart=>exact⟨0,Nat.zero_le _,Nat.zero_le _,rfl,X0,R0,B0⟩
 case round=>
  clear X0 R0 B0
  obtain⟨k,ap,aq,rfl,F,Y,t⟩:=hrel
  have y2:=(uH F).c2
  have hw:((k:Int)<(n:Int)∧(k:Int)<(m:Int))∨((n:Int)≤(k:Int)∨((k:Int)<(n:Int)∧(m:Int)≤(k:Int))):=by omega
  rcases hw with⟨h1,h2⟩|az
  ·have G:k<n:=by omega
   have z:k<m:=by omega
   obtain⟨pb,H,ax,ay,Z⟩:=(uH HI).2.2.resolve_left (by intro e;have:=uH HM;rw[e]at this;simp at this;omega)
   have cx:wr.cell? ⟨pb,H+k,none⟩=some (.int .i8 (nZ I k)):=by
    rw[(uH t).cell (p:=⟨pb,H+k,none⟩) ay]
    exact Z k (by rw[uH HM];exact z)
   have aI:-128≤nZ I k∧nZ I k≤127:=by
    unfold nZ
    rw[List.getElem?_eq_getElem (by rw[uH HM];exact z)]
    exact(uH HI).2.1 _ (List.getElem_mem _)
   subst ax
   have ae:=uH HR k z
   have GB:=ac (fun d=>uH KB d k z)
   have ai:=ac (uH HS k G z)
   have cg:=(uH Y).cell k (by rw[uH LT];exact G)
   have fg:=(uH Y).free k
   have NW:=ac ((uH Y).set k (v k))
   have NX:=ac ((uH F).other (p:=⟨g,k,none⟩) (show gm≠g by have:=uH ad;omega) (.int .u64 (v k:Nat)))
   have NB:=ac ((uH t).setCell (p:=⟨g,k,none⟩) (uH HG) (.int .u64 (v k:Nat)))
   generalize nZ I k=x at*
   have t1:IntKind.i64.wrap x=x:=br _ (by omega)
   have t2:IntKind.i64.wrap (Int.tmod x 5)=Int.tmod x 5:=br _ (by
    have h1:=Int.tmod_lt_of_pos x (show(0:Int)<5 by decide)
    have h2:=Int.lt_tmod_of_pos x (show(0:Int)<5 by decide)
    omega)
   generalize R k=rk at*
   generalize a1:v k=vk at*
   generalize (T k)[k]?.getD 0=a2 at*
   have a0:IntKind.i64.wrap ((k:Int)+1)=(k:Int)+1:=br _ (by omega)
   clear Z
   go_wp2_with fail
   go_region_with (first|(go_at_call 10;(try rw[ae]);refine(uH GB _).mono ?_;rintro e w8 ⟨rfl,rfl⟩)|fail "NO ARM")
   all_goals
    go_wp2_with fail
    go_round
    case rel=>exact⟨k+1,by omega,by omega,by go_num,ac ((uH NX).all (Below.refl _ _).drew),by rw[←uH ai];exact ac ((uH NW).below (Below.refl _ _).drew (uH NW).lt),ac (uH NB).drew⟩
    case measure=>simp[intOf];omega
  ·have am:=uH aa k ap aq (by omega)
   subst am
   have D:=ac (show ak wr (some ⟨g,0,none⟩) n (bs (T k))from by
    have:=(uH Y).bits (uH HV k)
    rw[uH LT]at this
    exact this)
   clear Y
   have y0:=(uH F).c0;have y1:=(uH F).c1
   rcases az with h1|⟨h1,h2⟩
   all_goals
    go_wp2_with fail
    clear y0 y1 y2
    refine(uH KF _ _ _ (uH t) (uH D)).mono ?_
    rintro e w3 ⟨x,y,lo,lc,rfl,⟨xo,xc,rfl,_,_⟩,⟨yo,yc,rfl,_,hq⟩,l⟩
    have U:=ag w3 (.cells #[.int .i64 a,.int .i64 a,.slice xo Q.length xc] 25)
    have s1:=aH w3 (.cells #[.int .i64 a,.int .i64 a,.slice xo Q.length xc] 25)
    have V:=ag (w3.alloc (.cells #[.int .i64 a,.int .i64 a,.slice xo Q.length xc] 25)) (.cells #[.int .i64 a,.int .i64 b,.slice yo L.length yc] 25)
    have x2:=aT.new (w3.alloc (.cells #[.int .i64 a,.int .i64 a,.slice xo Q.length xc] 25)) (.int .i64 a) (.int .i64 b) (.slice yo L.length yc)
    rw[s1]at x2
    have X2:=ac x2
    have X:=ac ((hq.below U).below V)
    replace D:=ac ((((uH D).below l).below U).below V)
    replace F:=ac ((((uH F).all l).all U).all V)
    have t1:=(uH t).trans (l.mono (uH t).size)
    have t2:=t1.trans (U.mono t1.size)
    replace t:=ac (t2.trans (V.mono t2.size))
    clear l U V s1 x2 hq t1 t2
    have z0:=(uH X2).c0;have z1:=(uH X2).c1;have z2:=(uH X2).c2
    go_wp2_with fail
    clear z0 z1 z2
    refine(uH KT _ _ _ (uH t) (uH X)).mono ?_
    rintro e w4 ⟨rfl,l⟩
    replace D:=ac ((uH D).below l)
    replace F:=ac ((uH F).all l)
    replace t:=ac ((uH t).trans (l.mono (uH t).size))
    clear l X2 X
    have z0:=(uH F).c0;have z1:=(uH F).c1;have z2:=(uH F).c2
    go_wp2_with fail
    clear z0 z1 z2
    refine(uH KR _ _ _ (uH D)).mono ?_
    rintro e w5 ⟨rfl,l⟩
    replace t:=ac ((uH t).trans (l.mono (uH t).size))
    clear l D F
    go_wp2_with fail
    refine(uH KE _).mono ?_
    rintro e w6 ⟨rfl,l⟩
    replace t:=ac ((uH t).trans (l.mono (uH t).size))
    clear l
    go_wp2_with fail
    refine(uH KA _ (uH t)).mono ?_
    rintro e w7 ⟨rfl,l⟩
    replace t:=ac ((uH t).trans (l.mono (uH t).size))
    clear l
    go_wp2
    go_ret
    exact⟨rfl,uH t⟩
end Go.Proofs.YtmpkkhackbpflaaGreatDoor
namespace Go.Proofs.YtmpkkhackbpflaaGreatDoor
open Go.RowKit
theorem oA(w:World)(z:c8 w):∀d,Below w.heap.size w d→Calls Tryz.prog 15 #[] d fun e l=>e=.returned (.bool true)∧Below d.heap.size d l:=
 wz w (fun d D t r c S F h G H=>ov r c t D S d h G H (z.all F))
attribute [local go_sem ↓] Go.wp_at_zero Go.wp_at_succ
theorem qB(r c l j:Nat)(D:Option Addr)(S:List Nat)(w:World)(h:Mx w D l r c S)(U:j<r)(t:j<c):
  Calls Tryz.prog 47 #[.agg #[.int .i64 r,.int .i64 c,.slice D S.length l],.int .i64 (j:Nat)] w fun e G=>e=.returned (.int .u64 (fR (cj c S j j):Nat))∧Below w.heap.size w G:=by
 have H:=ag w (.cells #[.int .i64 r,.int .i64 c,.slice D S.length l] 25)
 have I:=aT.new w (.int .i64 r) (.int .i64 c) (.slice D S.length l)
 obtain⟨b,aa,O,Q,d,_⟩:=h.cells U t
 have X:=h.el_lt j j
 have J:=gN U t
 have L:=h.small
 have Y:=h.2.1
 have K:=ac (fun G=>pA (cj c S j j) G X)
 generalize cj c S j j=u at*
 have M:=av d H
 obtain⟨q,F⟩:∃q,j*c=q:=⟨_,rfl⟩
 rw[F]at M J
 obtain⟨p,z⟩:∃p,q+j=p:=⟨_,rfl⟩
 rw[z]at M J
 generalize T:S.length=n at*
 have Z:(p:Int)<(n:Int):=by omega
 have e2:IntKind.i64.wrap ((j:Int)*(c:Int))=(q:Int):=by
  rw[cK j c,F]
  exact br _ (by omega)
 have e3:IntKind.i64.wrap ((q:Int)+(j:Int))=(p:Int):=(br _ (by omega)).trans (by omega)
 have e5:(j:Int)*(c:Int)=(q:Int):=by rw[cK j c,F]
 have e6:(q:Int)+(j:Int)=(p:Int):=by omega
 have e7:IntKind.i64.wrap (q:Int)=(q:Int):=br _ (by omega)
 have e8:IntKind.i64.wrap (p:Int)=(p:Int):=br _ (by omega)
 subst O
 have y1:=I.c1;have y2:=I.c2
 have N:=ac H
 clear H I d F z J Y L h T Q
 go_enter Tryz.func47,Tryz.ntmps47
 go_wp2_with fail
 refine(uH K _).mono ?_
 rintro e w1 ⟨rfl,V⟩
 have B1:=ac ((uH N).trans (V.mono (uH N).size))
 clear V N K y1 y2 M
 go_wp2
 go_ret
 exact⟨rfl,uH B1⟩
theorem FN(r c n z q m a0 sh:Nat)(J:Option Addr)(ad:Nat→Nat)(f:Nat→Bool)(w:World)(hq:(q:Int)=min (r:Int) (c:Int))(ae:q≤6)
  (hm:∀k,k≤q→(∀j,j<k→f j=true)→(k=q∨f k=false)→k=m)
  (C0:∀d,Below w.heap.size w d→Calls Tryz.prog 41 #[.agg #[.int .i64 r,.int .i64 c,.slice J n z]] d fun e G=>e=.returned (.int .i64 0)∧Below d.heap.size d G)
  (C1:∀d,Below w.heap.size w d→0<q→Calls Tryz.prog 47 #[.agg #[.int .i64 r,.int .i64 c,.slice J n z],.int .i64 0] d fun e G=>e=.returned (.int .u64 (a0:Nat))∧Below d.heap.size d G)
  (C2:∀d,Below w.heap.size w d→Calls Tryz.prog 46 #[.int .u64 a0,.int .i64 (-40)] d fun e G=>e=.returned (.int .u64 (sh:Nat))∧Below d.heap.size d G)
  (C3:∀d k,Below w.heap.size w d→k<q→Calls Tryz.prog 47 #[.agg #[.int .i64 r,.int .i64 c,.slice J n z],.int .i64 (k:Nat)] d fun e G=>e=.returned (.int .u64 (ad k:Nat))∧Below d.heap.size d G)
  (C4:∀d k,k<q→Calls Tryz.prog 45 #[.int .u64 sh,.int .u64 (ad k:Nat)] d fun e G=>e=.returned (.bool (f k))∧Below d.heap.size d G):
  Calls Tryz.prog 12 #[.agg #[.int .i64 r,.int .i64 c,.slice J n z]] w fun e d=>e=.returned (.tuple #[.int .i64 (m:Nat),.int .i64 0])∧Below w.heap.size w d:=by
 have O:∀(W:World) U t,(Builtin.min_ U t #[.int .i64 (r:Int),.int .i64 (c:Int)]).run Tryz.prog W=.ok (.int .i64 (q:Int)) W:=fun W U t=>by rw[hq];exact pH _ W U t _ _
 have N:=ac (ag w (.cells #[.int .i64 r,.int .i64 c,.slice J n z] 25))
 have M:=ac (aT.new w (.int .i64 r) (.int .i64 c) (.slice J n z))
 have K0:=ac (C0 _ (uH N));have K1:=ac C1;have K2:=ac C2;have K3:=ac C3;have K4:=ac C4;have HM:=ac hm
 have V:=(uH M).c0;have X:=(uH M).c1;have y2:=(uH M).c2
 clear C0 C1 C2 C3 C4 hm hq
 go_enter Tryz.func12,Tryz.ntmps12
 go_wp2_with fail
 clear V X y2
 refine(uH K0).mono ?_
 rintro e w1 ⟨rfl,D⟩
 replace M:=ac ((uH M).all D)
 replace N:=ac ((uH N).trans (D.mono (uH N).size))
 clear D K0
 have V:=(uH M).c0;have X:=(uH M).c1
 go_wp2_with fail
 clear V X O
 go_loopw[18] (fun a wr=>∃k:Nat,k≤q∧a=.int .i64 k∧Hid (∀j,j<k→f j=true)∧Hid (aT wr w.heap.size (.int .i64 r) (.int .i64 c) (.slice J n z))∧Hid (Below w.heap.size w wr)) (fun a _=>q-(intOf a).toNat)
 case atStart=>exact⟨0,Nat.zero_le _,rfl,fun j hj=>absurd hj (Nat.not_lt_zero j),M,N⟩
 case round=>
  clear M N
  obtain⟨k,hk,rfl,hF,l,F⟩:=hrel
  by_cases Q:k<q
  ·have Y:(k:Int)<(q:Int):=by omega
   go_wp2_with fail
   refine aG (fun W=>aT W w.heap.size (.int .i64 r) (.int .i64 c) (.slice J n z)∧Below w.heap.size w W) ⟨uH l,uH F⟩ ?_
   clear l F
   rintro W ⟨hx,D⟩
   have l:=ac (hx.all (Below.refl W.heap.size W).drew)
   have F:=ac (D.trans (((Below.refl W.heap.size W).drew).mono D.size))
   clear hx D
   refine wp_region_held_drew (S:=(fun d=>d.cell? ⟨w.heap.size,0,none⟩=some (.int .i64 (r:Nat))∧d.cell? ⟨w.heap.size,1,none⟩=some (.int .i64 (c:Nat))∧d.cell? ⟨w.heap.size,2,none⟩=some (.slice J n z))) (by kernel_rfl) ?_ (fun H=>?_)
   ·exact⟨(uH l).c0,(uH l).c1,(uH l).c2⟩
   refine wpAnyH_take (i:=0) (oi:={dst:=some 21,op:=Op.load 25 (Operand.tmp 1),type:=25,pos:= "pivot.go:40",after:=#[],guard:=none}) (v:=(Value.agg #[.int .i64 (r:Nat),.int .i64 (c:Nat),.slice J n z])) rfl (by kernel_rfl) (by kernel_rfl) (by kernel_rfl) (fun _ _ _ h=>h) (Or.inl ⟨by rfl,?_⟩) (by assumption) ?_
   ·(intro w I;(try dsimp only at I);go_simp)
   simp only[Act.put,List.setIfInBounds_toArray,List.set_cons_zero,List.set_cons_succ]
   refine wpAnyH_take (i:=3) (oi:={dst:=some 24,op:=Op.load 25 (Operand.tmp 1),type:=25,pos:= "pivot.go:40",after:=#[],guard:=none}) (v:=(Value.agg #[.int .i64 (r:Nat),.int .i64 (c:Nat),.slice J n z])) rfl (by kernel_rfl) (by kernel_rfl) (by kernel_rfl) (fun _ _ _ h=>h) (Or.inl ⟨by rfl,?_⟩) (by assumption) ?_
   ·(intro w I;(try dsimp only at I);go_simp)
   simp only[Act.put,List.setIfInBounds_toArray,List.set_cons_zero,List.set_cons_succ]
   refine wpAnyH_take (i:=4) (oi:={dst:=some 25,op:=Op.move (Operand.tmp 6),type:=3,pos:= "pivot.go:40",after:=#[],guard:=none}) (v:=(Value.int .i64 (k:Nat))) rfl (by kernel_rfl) (by kernel_rfl) (by kernel_rfl) (fun _ _ _ h=>h) (Or.inl ⟨by rfl,?_⟩) (by assumption) ?_
   ·(intro w I;(try dsimp only at I);go_simp)
   simp only[Act.put,List.setIfInBounds_toArray,List.set_cons_zero,List.set_cons_succ]
   refine wpAnyH_ready (rs:=[1]) (by kernel_rfl) (by simp) ?_
   refine AllReadyH.cons (o:={dst:=some 22,op:=Op.call {callee:=Callee.value (Operand.func 47),args:=#[Operand.tmp 21,Operand.const (Value.int IntKind.i64 0)],argTypes:=#[25,3]},type:=28,pos:= "pivot.go:40",after:=#[{on:=0,ground:=Ground.data}],guard:=none}) rfl (fun K L=>?_) AllReadyH.nil
   go_simp
   refine(uH K1 _ (uH F) (by omega)).mono ?_
   rintro e w2 ⟨rfl,D⟩
   replace l:=ac ((uH l).all D)
   replace F:=ac ((uH F).trans (D.mono (uH F).size))
   clear D
   go_wp2_with fail
   refine L.out _ _ ?_ (fun H=>?_)
   ·exact⟨(uH l).c0,(uH l).c1,(uH l).c2⟩
   clear L K
   refine wpAnyH_ready (rs:=[2]) (by kernel_rfl) (by simp) ?_
   refine AllReadyH.cons (o:={dst:=some 23,op:=Op.call {callee:=Callee.value (Operand.func 46),args:=#[Operand.tmp 22,Operand.const (Value.int IntKind.i64 (-40))],argTypes:=#[28,3]},type:=28,pos:= "pivot.go:40",after:=#[{on:=1,ground:=Ground.data},{on:=1,ground:=Ground.chain}],guard:=none}) rfl (fun K L=>?_) AllReadyH.nil
   go_simp
   refine(uH K2 _ (uH F)).mono ?_
   rintro e w3 ⟨rfl,D⟩
   replace l:=ac ((uH l).all D)
   replace F:=ac ((uH F).trans (D.mono (uH F).size))
   clear D
   go_wp2_with fail
   refine L.out _ _ ?_ (fun H=>?_)
   ·exact⟨(uH l).c0,(uH l).c1,(uH l).c2⟩
   clear L K
   refine wpAnyH_ready (rs:=[5]) (by kernel_rfl) (by simp) ?_
   refine AllReadyH.cons (o:={dst:=some 26,op:=Op.call {callee:=Callee.value (Operand.func 47),args:=#[Operand.tmp 24,Operand.tmp 25],argTypes:=#[25,3]},type:=28,pos:= "pivot.go:40",after:=#[{on:=3,ground:=Ground.data},{on:=4,ground:=Ground.data},{on:=2,ground:=Ground.chain}],guard:=none}) rfl (fun K L=>?_) AllReadyH.nil
   go_simp
   refine(uH K3 _ k (uH F) Q).mono ?_
   rintro e w4 ⟨rfl,D⟩
   replace l:=ac ((uH l).all D)
   replace F:=ac ((uH F).trans (D.mono (uH F).size))
   clear D
   go_wp2_with fail
   refine L.out _ _ ?_ (fun H=>?_)
   ·exact⟨(uH l).c0,(uH l).c1,(uH l).c2⟩
   clear L K
   refine wpAnyH_ready (rs:=[6]) (by kernel_rfl) (by simp) ?_
   refine AllReadyH.cons (o:={dst:=some 27,op:=Op.call {callee:=Callee.value (Operand.func 45),args:=#[Operand.tmp 23,Operand.tmp 26],argTypes:=#[28,28]},type:=4,pos:= "pivot.go:40",after:=#[{on:=2,ground:=Ground.data},{on:=5,ground:=Ground.data},{on:=5,ground:=Ground.chain}],guard:=none}) rfl (fun K L=>?_) AllReadyH.nil
   go_simp
   refine(uH K4 _ k Q).mono ?_
   rintro e w5 ⟨rfl,D⟩
   replace l:=ac ((uH l).all D)
   replace F:=ac ((uH F).trans (D.mono (uH F).size))
   clear D
   go_wp2_with fail
   refine L.out _ _ ?_ (fun H=>?_)
   ·exact⟨(uH l).c0,(uH l).c1,(uH l).c2⟩
   clear L K
   refine wpAnyH_take (i:=7) (oi:={dst:=some 28,op:=Op.unOp UnOp.not 4 (Operand.tmp 27),type:=4,pos:= "pivot.go:40",after:=#[{on:=6,ground:=Ground.data}],guard:=none}) (v:=(Value.bool (!f k))) rfl (by kernel_rfl) (by kernel_rfl) (by kernel_rfl) (fun _ _ _ h=>h) (Or.inl ⟨by rfl,?_⟩) (by assumption) ?_
   ·(intro w I;(try dsimp only at I);go_simp)
   simp only[Act.put,List.setIfInBounds_toArray,List.set_cons_zero,List.set_cons_succ]
   refine wpAnyH_done (by kernel_rfl) ?_ _
   cases hf:f k with
   |false=>
    have Z:Hid (k=m):=ac (uH HM k hk (uH hF) (.inr hf))
    go_wp2_with fail
    exact bodyPost_ret (v:=.tuple #[.int .i64 (k:Nat),.int .i64 0]) (by simp[results,Tryz.results12,go_sem]) rfl ⟨by rw[uH Z],uH F⟩
   |true=>
    have aa:Hid (∀j,j<k+1→f j=true):=ac (fun j hj=>by
     by_cases g:j=k
     ·rw[g];exact hf
     ·exact uH hF j (by omega))
    go_wp2_with fail
    go_round
    case rel=>exact⟨k+1,by omega,by go_num,aa,l,F⟩
    case measure=>first|(simp[intOf];done)|(simp[intOf];omega)
  ·have T:k=q:=by omega
   have Z:Hid (q=m):=ac (uH HM q (Nat.le_refl _) (by rw[←T];exact uH hF) (.inl rfl))
   have Y:¬((k:Int)<(q:Int)):=by omega
   clear T
   go_wp2_with fail
   exact bodyPost_ret (v:=.tuple #[.int .i64 (q:Nat),.int .i64 0]) (by simp[results,Tryz.results12,go_sem]) rfl ⟨by rw[uH Z],uH F⟩
theorem Cf(r c d:Nat)(D:Option Addr)(S:List Nat)(w:World)(h:Mx w D d r c S)(H:eM S=true)(I:c8 w):
  Calls Tryz.prog 12 #[.agg #[.int .i64 r,.int .i64 c,.slice D S.length d]] w fun e l=>e=.returned (.tuple #[.int .i64 (FG r c S:Nat),.int .i64 0])∧Below w.heap.size w l:=by
 have O:=h.2.2.1;have Q:=h.2.2.2
 have M:=h.small
 have G:Ig (r:Int) (c:Int) (bs S)=0:=by
  unfold Ig
  rw[aM,zT h]
  have:je (bs S) S.length=true:=H
  rw[this]
  rfl
 have z:∀k,fR (cj c S k k)<18446744073709551616:=fun k=>by have:=jG (cj c S k k);omega
 refine FN r c S.length d (min r c) (FG r c S) (fR (cj c S 0 0)) (xV (fR (cj c S 0 0)) (-40)) D (fun k=>fR (cj c S k k)) (Cl c S) w (by omega) (by omega) (fun k F J L=>(eT (Cl c S) (min r c) k F J L).symm) (fun l t=>?_) (fun l t N=>?_) (fun l t=>?_) (fun l k t F=>?_) (fun l k F=>?_)
 ·have:=qg r c D d (bs S) l (h.1.below t) (by rw[aM];omega)
  rw[aM,G]at this
  exact this
 ·exact qB r c d 0 D S l (h.below t) (by omega) (by omega)
 ·exact lh (fR (cj c S 0 0)) (-40) l (z 0) (I.all t)
 ·exact qB r c d k D S l (h.below t) (by omega) (by omega)
 ·have:=rZ (xV (fR (cj c S 0 0)) (-40)) (fR (cj c S k k)) l (zq _ _ (z 0)) (z k)
  exact this
end Go.Proofs.YtmpkkhackbpflaaGreatDoor
