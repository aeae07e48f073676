/- Part 16 of the texts. -/
import Derived.Test.YtenpggicmfhhdaaGreatDoorParte15
import Derived.Deep.Cut
set_option maxHeartbeats 4000000
namespace Go.Proofs.YtenpggicmfhhdaaGreatDoor
open Go.RowKit
def fD(b:Nat):Int:=oM (fM b)
def fX(b:Nat):Int:=oE (fM b) (fE b)
theorem FS(b:Nat)(h:fM b≠0):tz (fM b).natAbs<53:=kO _ _ (by omega) (by rw[xH];exact qK b)
theorem FT(b:Nat):cI (fM b) (fE b)=0∧dM (fM b) (fE b)=fD b∧dX (fM b) (fE b)=fX b:=by
 have h:=yb b
 have d:kt (fM b) (fE b)=true:=by
  unfold kt
  rw[decide_eq_true (by omega)]
  by_cases f:fM b=0
  ·rw[decide_eq_true f];rfl
  ·have:=FS b f
   rw[decide_eq_true (p:=-16384≤_∧_) (by omega)]
   simp
 unfold cI dM dX
 rw[if_pos d,if_pos d,if_pos d]
 exact⟨rfl,rfl,rfl⟩
theorem Er(b:Nat):(fM b).natAbs<di:=pt (k:=53) (by rw[xH];exact qK b) (by decide)
theorem Es(b:Nat)(w:World)(h:b<18446744073709551616)(z:aD b=false):
  Calls Tryz.prog 133 #[.int .u64 b] w fun r m=>k9 m r 7 0 0∧Below w.heap.size w m:=by
 have t:=aa (fun m=>eM b m h)
 rw[z]at t
 clear z h
 have l:Below w.heap.size w (w.alloc (.cells #[.bool false,.slice none 0 0,.int .i64 0] 110)):=(Below.refl _ _).alloc (Nat.le_refl _) _
 have y:=aa l;have A:=aa (aB.new w (.bool false) (.slice none 0 0) (.int .i64 0))
 clear l
 go_enter Tryz.func133,Tryz.ntmps133
 go_wp2_with fail
 refine(uH t _).mono ?_
 rintro r M ⟨rfl,f⟩
 have d:=(uH A).all f
 have D:=aa ((uH y).trans (f.mono (uH y).size))
 have F:=d.c0;have G:=d.c1;have H:=d.c2;have I:=d.free 0;have K:=d.free 1;have L:=d.free 2
 clear f d A y t
 go_wp2
 exact bodyPost_ret (v:=.tuple #[.agg #[.bool false,.slice none 0 0,.int .i64 0],.int .i64 7]) (by simp[results,Tryz.results133,go_sem,F,G,H]) rfl ⟨⟨_,rfl,aH.zero _ _ _⟩,aE (uH D) (Nat.le_refl _) _ _ _⟩
theorem cV(b:Nat)(w:World)(h:b<18446744073709551616)(hf:aD b=true)(hT:cd w):
  Calls Tryz.prog 133 #[.int .u64 b] w fun r d=>k9 d r 0 (fD b) (fX b)∧Below w.heap.size w d:=by
 have I:=aa (fun d=>eM b d h)
 rw[hf]at I
 have CS:=aa (fun d=>ej b d h)
 have CP:=aa (fun d=>vB b d)
 have CO:=aa (fun d=>sD (fM b) d (by have:=qK b;omega) (by have:=qK b;omega))
 obtain⟨k1,k2,k3⟩:=FT b
 have K:=aa (fun d v B (H:ay B d v (fM b)) (t:cd d)=>iw (fE b) H (Er b) (by have:=yb b;omega) t)
 rw[k1,k2,k3]at K
 clear k1 k2 k3
 unfold fV at*
 generalize fM b=m at*
 generalize fE b=e at*
 generalize fD b=M at*
 generalize fX b=X at*
 generalize fS b=s at*
 generalize fP b=p at*
 generalize fF b=f at*
 clear hf h
 have G:Below w.heap.size w (w.alloc (.cells #[.bool false,.slice none 0 0,.int .i64 0] 110)):=(Below.refl _ _).alloc (Nat.le_refl _) _
 have L:=aa G;have X2:=aa (aB.new w (.bool false) (.slice none 0 0) (.int .i64 0))
 clear G
 go_enter Tryz.func133,Tryz.ntmps133
 go_wp2_with fail
 refine(uH I _).mono ?_
 rintro r w1 ⟨rfl,y⟩
 have X3:=aa ((uH X2).all y)
 have N:=aa ((uH L).trans (y.mono (uH L).size))
 clear y X2 L I
 go_wp2_with fail
 refine(uH CS _).mono ?_
 rintro r w2 ⟨rfl,z⟩
 have X4:=aa ((uH X3).all z)
 have O:=aa ((uH N).trans (z.mono (uH N).size))
 clear z X3 N CS
 go_wp2_with fail
 refine(uH CP _).mono ?_
 rintro r w3 ⟨rfl,A⟩
 have X5:=aa ((uH X4).all A)
 have Q:=aa ((uH O).trans (A.mono (uH O).size))
 clear A X4 O CP
 go_wp2_with fail
 refine(uH CO _).mono ?_
 rintro r w4 ⟨v,rfl,H,D⟩
 have X6:=aa ((uH X5).all D)
 have T:=(uH Q).trans (D.mono (uH Q).size)
 have U:=aa T
 have HT:=aa (hT.all T)
 have HV:=aa H
 clear D X5 Q CO T H
 go_wp2_with fail
 refine(uH K _ _ _ (uH HV) (uH HT)).mono ?_
 rintro r w5 ⟨u,rfl,hu,F⟩
 have l:=(uH X6).all F
 have X7:=aa l
 have B5:=aa ((uH U).trans (F.mono (uH U).size))
 obtain⟨V,Y,Z,L2,rfl,j2⟩:=hu
 have J:=aa (show aH w5 (.agg #[.bool V,.slice Y L2.length Z,.int .i64 X]) M X from⟨V,Y,Z,L2,rfl,j2⟩)
 have y0:=l.c0;have y1:=l.c1;have y2:=l.c2;have f0:=l.free 0;have f1:=l.free 1;have f2:=l.free 2
 clear F l X6 U K j2
 go_wp2
 exact bodyPost_ret (v:=.tuple #[.agg #[.bool V,.slice Y L2.length Z,.int .i64 X],.int .i64 0]) (by simp[results,Tryz.results133,go_sem,y0,y1,y2]) rfl ⟨⟨_,rfl,(uH J).put3 (uH X7) _ _ _⟩,aE (uH B5) (Nat.le_refl _) _ _ _⟩
theorem ml{M B:Nat}{w:World}{v:Value}{z:Int}(h:aG M B w v z)(D:M≤1000000):
  Calls Tryz.prog 121 #[v] w fun e d=>∃u,e=.returned u∧aG M 0 d u (-z)∧Below w.heap.size w d:=by
 obtain⟨n,a,c,L,rfl,l,F,G,m,t,y⟩:=h
 refine(lU n a c L w l (by omega)).mono ?_
 rintro e d ⟨u,rfl,f,A⟩
 rw[jt m t]at f
 exact⟨u,rfl,f.more y,A⟩
def qg(w W:World)(g:Nat)(n:Bool)(a:Option Addr)(l c:Nat)(z:Int):Prop:=
 Below w.heap.size w W∧aB W w.heap.size (.bool false) (.slice none 0 0) (.int .i64 0)∧aC W g (.bool n) (.slice a l c)∧w.heap.size<g∧aG 2 0 W (.agg #[.bool n,.slice a l c]) z
theorem aG.zeroB{M B:Nat}{w:World}{v:Value}{x:Int}(h:aG M B w v x):aG M 0 w v x:=by
 obtain⟨neg,l,d,L,m,f,y,t⟩:=h
 exact⟨neg,l,d,L,m,f,bI.zero f,t⟩
theorem aG.box{M B:Nat}{w:World}{v:Value}{x:Int}(h:aG M B w v x){g:Nat}{y:Bool}{a:Option Addr}{n c:Nat}(f:aC w g (.bool y) (.slice a n c))(u u':Value):aG M B ((w.setCell ⟨g,0,none⟩ u).setCell ⟨g,1,none⟩ u') v x:=by
 obtain⟨neg,l,d,L,m,t,z⟩:=h
 exact⟨neg,l,d,L,m,t.box f u u',z⟩
theorem qg.below{w W f:World}{g:Nat}{n:Bool}{a:Option Addr}{l c:Nat}{z:Int}(h:qg w W g n a l c z)(d:Below W.heap.size W f):qg w f g n a l c z:=
 ⟨h.1.trans (d.mono h.1.size),h.2.1.all d,h.2.2.1.all d,h.2.2.2.1,h.2.2.2.2.below d⟩
theorem qg.put{w W:World}{g:Nat}{n d:Bool}{a f:Option Addr}{l c m t:Nat}{z y:Int}(h:qg w W g n a l c z)(D:aG 2 0 W (.agg #[.bool d,.slice f m t]) y):
  qg w ((W.setCell ⟨g,0,none⟩ (.bool d)).setCell ⟨g,1,none⟩ (.slice f m t)) g d f m t y:=by
 obtain⟨F,G,A,H,I⟩:=h
 exact⟨bP F (by omega) _ _,(G.other (by simp;omega) _).other (by simp;omega) _,A.put _ _,H,D.box A _ _⟩
theorem vF(b:Nat)(f:Nat)(A m e X Y:Int)(w:World)(ae:IntKind.i64.wrap (f:Int)=A)
  (CF:∀h,Calls Tryz.prog 98 #[.int .u64 b] h fun r d=>r=.returned (.int .u64 f)∧h=d)
  (CP:∀h,Calls Tryz.prog 57 #[.int .u64 b] h fun r d=>r=.returned (.int .i64 0)∧h=d)
  (CN:∀h,Calls Tryz.prog 60 #[.int .u64 b] h fun r d=>r=.returned (.bool false)∧h=d)
  (CO:∀h,Calls Tryz.prog 120 #[.int .i64 A] h fun r d=>∃v,r=.returned v∧aG 2 h.heap.size d v A∧Below h.heap.size h d)
  (CV:∀h v,aG 2 0 h v m→Calls Tryz.prog 122 #[v,.int .i64 e] h fun r d=>∃u,r=.returned u∧aH d u X Y∧Below h.heap.size h d)
  (he:e= -1074) (hm:A=m)
  :Calls Tryz.prog 102 #[.int .u64 b] w fun r h=>∃u,r=.returned u∧aH h u X Y∧Below w.heap.size w h:=by
 subst he hm
 have KF:=aa CF;have KP:=aa CP;have KN:=aa CN;have KO:=aa CO;have KV:=aa CV
 clear CF CP CN CO CV
 have D:Below w.heap.size w (w.alloc (.cells #[.bool false,.slice none 0 0,.int .i64 0] 110)):=(Below.refl _ _).alloc (Nat.le_refl _) _
 have L:=aa D;have X2:=aa (aB.new w (.bool false) (.slice none 0 0) (.int .i64 0))
 clear D
 go_enter Tryz.func102,Tryz.ntmps102
 go_wp2_with(go_at_call 98;refine(uH KF _).mono ?_;rintro r w2 ⟨rfl,rfl⟩)
 refine(uH KO _).mono ?_
 rintro r K ⟨v,rfl,hv,y⟩
 obtain⟨H,t,I,F,rfl,i1⟩:=hv
 have M:=(uH L).trans (y.mono (uH L).size)
 have l:qg w (K.alloc (.cells #[.bool H,.slice t F.length I] 108)) K.heap.size H t F.length I A:=
  ⟨M.alloc M.size _,((uH X2).all y).old _,aC.new _ _ _,by have:=y.size;simp at this;omega,(aG.zeroB ⟨H,t,I,F,rfl,i1⟩).below ((Below.refl _ _).alloc (Nat.le_refl _) _)⟩
 have V1:=aa l
 clear M l y i1 L X2 KO
 go_upto_region 3 with(fail)
 refine ap (fun W=>qg w W K.heap.size H t F.length I A) (uH V1) ?_
 clear V1
 intro W1 l
 generalize K.heap.size=g at*
 generalize F.length=l1 at*
 have N:=aa l
 have O:=l.2.2.1.c0;have Q:=l.2.2.1.c1;have f0:=l.2.2.1.free 0;have f1:=l.2.2.1.free 1
 clear l
 go_wp2_with(first|(go_at_call 57;refine(uH KP _).mono ?_;rintro r w2 ⟨rfl,rfl⟩)|(go_at_call 60;refine(uH KN _).mono ?_;rintro r w2 ⟨rfl,rfl⟩))
 refine(uH KV _ _ (uH N).2.2.2.2).mono ?_
 rintro r w9 ⟨u,rfl,hu,G⟩
 have T:=(uH N).below G
 have z:=T.2.1
 have V9:=aa T
 obtain⟨U,V,Z,L9,rfl,j9⟩:=hu
 have J:=aa (show aH w9 (.agg #[.bool U,.slice V L9.length Z,.int .i64 Y]) X Y from⟨U,V,Z,L9,rfl,j9⟩)
 clear O Q f0 f1
 have O:=z.c0;have Q:=z.c1;have y2:=z.c2;have f0:=z.free 0;have f1:=z.free 1;have f2:=z.free 2
 clear G T z N j9
 go_wp2
 exact bodyPost_ret (v:=.agg #[.bool U,.slice V L9.length Z,.int .i64 Y]) (by simp[results,Tryz.results102,go_sem,O,Q,y2]) rfl ⟨_,rfl,(uH J).put3 (uH V9).2.1 _ _ _,aE (uH V9).1 (Nat.le_refl _) _ _ _⟩
theorem vG(b:Nat)(f:Nat)(H m e X Y:Int)(w:World)(ae:IntKind.i64.wrap (f:Int)=H)
  (CF:∀h,Calls Tryz.prog 98 #[.int .u64 b] h fun r d=>r=.returned (.int .u64 f)∧h=d)
  (CP:∀h,Calls Tryz.prog 57 #[.int .u64 b] h fun r d=>r=.returned (.int .i64 0)∧h=d)
  (CN:∀h,Calls Tryz.prog 60 #[.int .u64 b] h fun r d=>r=.returned (.bool true)∧h=d)
  (CO:∀h,Calls Tryz.prog 120 #[.int .i64 H] h fun r d=>∃v,r=.returned v∧aG 2 h.heap.size d v H∧Below h.heap.size h d)
  (CV:∀h v,aG 2 0 h v (-m)→Calls Tryz.prog 122 #[v,.int .i64 e] h fun r d=>∃u,r=.returned u∧aH d u X Y∧Below h.heap.size h d)
  (he:e= -1074) (hm:H=m)
  :Calls Tryz.prog 102 #[.int .u64 b] w fun r h=>∃u,r=.returned u∧aH h u X Y∧Below w.heap.size w h:=by
 subst he hm
 have KF:=aa CF;have KP:=aa CP;have KN:=aa CN;have KO:=aa CO;have KV:=aa CV
 clear CF CP CN CO CV
 have L:Below w.heap.size w (w.alloc (.cells #[.bool false,.slice none 0 0,.int .i64 0] 110)):=(Below.refl _ _).alloc (Nat.le_refl _) _
 have V:=aa L;have X2:=aa (aB.new w (.bool false) (.slice none 0 0) (.int .i64 0))
 clear L
 go_enter Tryz.func102,Tryz.ntmps102
 go_wp2_with(go_at_call 98;refine(uH KF _).mono ?_;rintro r w2 ⟨rfl,rfl⟩)
 refine(uH KO _).mono ?_
 rintro r U ⟨v,rfl,hv,z⟩
 obtain⟨Q,y,T,M,rfl,i1⟩:=hv
 have Z:=(uH V).trans (z.mono (uH V).size)
 have t:qg w (U.alloc (.cells #[.bool Q,.slice y M.length T] 108)) U.heap.size Q y M.length T H:=
  ⟨Z.alloc Z.size _,((uH X2).all z).old _,aC.new _ _ _,by have:=z.size;simp at this;omega,(aG.zeroB ⟨Q,y,T,M,rfl,i1⟩).below ((Below.refl _ _).alloc (Nat.le_refl _) _)⟩
 have V1:=aa t
 clear Z t z i1 V X2 KO
 go_upto_region 3 with(fail)
 refine ap (fun W=>qg w W U.heap.size Q y M.length T H) (uH V1) ?_
 clear V1
 intro W1 t
 generalize U.heap.size=g at*
 generalize M.length=l1 at*
 have A:=aa t
 have D:=t.2.2.1.c0;have F:=t.2.2.1.c1;have I:=t.2.2.1.free 0;have K:=t.2.2.1.free 1
 clear t
 go_wp2_with(first|(go_at_call 57;refine(uH KP _).mono ?_;rintro r w2 ⟨rfl,rfl⟩)|(go_at_call 60;refine(uH KN _).mono ?_;rintro r w2 ⟨rfl,rfl⟩))
 refine(ml (uH A).2.2.2.2 (by decide)).mono ?_
 rintro r w7 ⟨v,rfl,hv,N⟩
 have l:=(uH A).below N
 clear A N D F I K
 obtain⟨n7,a7,c7,L7,rfl,i7⟩:=hv
 have v6:=l.put ⟨n7,a7,c7,L7,rfl,i7⟩
 have V6:=aa v6
 have D:=l.2.2.1.c0;have F:=l.2.2.1.c1;have I:=l.2.2.1.free 0;have K:=l.2.2.1.free 1
 clear l v6 i7
 go_upto_region 8 with(fail)
 refine ap (fun W=>qg w W g n7 a7 L7.length c7 _) (uH V6) ?_
 clear V6 D F I K
 intro W7 l
 generalize L7.length=l7 at*
 have A:=aa l
 have D:=l.2.2.1.c0;have F:=l.2.2.1.c1;have I:=l.2.2.1.free 0;have K:=l.2.2.1.free 1
 clear l
 go_wp2_with fail
 refine(uH KV _ _ (uH A).2.2.2.2).mono ?_
 rintro r w9 ⟨u,rfl,hu,O⟩
 have v9:=(uH A).below O
 have G:=v9.2.1
 have V9:=aa v9
 obtain⟨n9,a9,c9,L9,rfl,j9⟩:=hu
 have J:=aa (show aH w9 (.agg #[.bool n9,.slice a9 L9.length c9,.int .i64 Y]) X Y from⟨n9,a9,c9,L9,rfl,j9⟩)
 clear D F I K
 have D:=G.c0;have F:=G.c1;have y2:=G.c2;have I:=G.free 0;have K:=G.free 1;have f2:=G.free 2
 clear O v9 G A j9
 go_wp2
 exact bodyPost_ret (v:=.agg #[.bool n9,.slice a9 L9.length c9,.int .i64 Y]) (by simp[results,Tryz.results102,go_sem,D,F,y2]) rfl ⟨_,rfl,(uH J).put3 (uH V9).2.1 _ _ _,aE (uH V9).1 (Nat.le_refl _) _ _ _⟩
theorem vH(b:Nat)(p:Nat)(f:Nat)(D a1 m e X Y:Int)(w:World)(h1:0<p)(ae:IntKind.i64.wrap (f:Int)=D)
  (CF:∀h,Calls Tryz.prog 98 #[.int .u64 b] h fun r d=>r=.returned (.int .u64 f)∧h=d)
  (CP:∀h,Calls Tryz.prog 57 #[.int .u64 b] h fun r d=>r=.returned (.int .i64 p)∧h=d)
  (CN:∀h,Calls Tryz.prog 60 #[.int .u64 b] h fun r d=>r=.returned (.bool false)∧h=d)
  (CO:∀h,Calls Tryz.prog 120 #[.int .i64 D] h fun r d=>∃v,r=.returned v∧aG 2 h.heap.size d v D∧Below h.heap.size h d)
  (CV:∀h v,aG 2 0 h v m→Calls Tryz.prog 122 #[v,.int .i64 e] h fun r d=>∃u,r=.returned u∧aH d u X Y∧Below h.heap.size h d)
  (F:IntKind.u64.wrap ((f:Int)+4503599627370496)=a1) (G:IntKind.i64.wrap a1=m) (w3:IntKind.i64.wrap ((p:Int)-1075)=e)
  (C1:∀h,Calls Tryz.prog 120 #[.int .i64 m] h fun r d=>∃v,r=.returned v∧aG 2 h.heap.size d v m∧Below h.heap.size h d)
  :Calls Tryz.prog 102 #[.int .u64 b] w fun r h=>∃u,r=.returned u∧aH h u X Y∧Below w.heap.size w h:=by
 have aj:decide (0<p)=true:=decide_eq_true h1
 have KF:=aa CF;have KP:=aa CP;have KN:=aa CN;have KO:=aa CO;have KV:=aa CV
 clear CF CP CN CO CV
 have K1:=aa C1
 clear C1
 have H:Below w.heap.size w (w.alloc (.cells #[.bool false,.slice none 0 0,.int .i64 0] 110)):=(Below.refl _ _).alloc (Nat.le_refl _) _
 have Z:=aa H;have X2:=aa (aB.new w (.bool false) (.slice none 0 0) (.int .i64 0))
 clear H
 go_enter Tryz.func102,Tryz.ntmps102
 go_wp2_with(go_at_call 98;refine(uH KF _).mono ?_;rintro r G ⟨rfl,rfl⟩)
 refine(uH KO _).mono ?_
 rintro r F ⟨v,rfl,hv,y⟩
 obtain⟨U,t,V,M,rfl,i1⟩:=hv
 have b1:=(uH Z).trans (y.mono (uH Z).size)
 have I:qg w (F.alloc (.cells #[.bool U,.slice t M.length V] 108)) F.heap.size U t M.length V D:=
  ⟨b1.alloc b1.size _,((uH X2).all y).old _,aC.new _ _ _,by have:=y.size;simp at this;omega,(aG.zeroB ⟨U,t,V,M,rfl,i1⟩).below ((Below.refl _ _).alloc (Nat.le_refl _) _)⟩
 have V1:=aa I
 clear b1 I y i1 Z X2 KO
 go_upto_region 3 with(fail)
 refine ap (fun W=>qg w W F.heap.size U t M.length V D) (uH V1) ?_
 clear V1
 intro W1 I
 generalize F.heap.size=g at*
 generalize M.length=l1 at*
 have A:=aa I
 clear I
 go_wp2_with(first|(go_at_call 57;refine(uH KP _).mono ?_;rintro r G ⟨rfl,rfl⟩)|(go_at_call 98;refine(uH KF _).mono ?_;rintro r G ⟨rfl,rfl⟩))
 refine(uH K1 _).mono ?_
 rintro r w5 ⟨v,rfl,hv,N⟩
 have l:=(uH A).below N
 clear A N K1
 obtain⟨n5,a5,c5,L5,rfl,i5⟩:=hv
 have v6:=l.put (aG.zeroB ⟨n5,a5,c5,L5,rfl,i5⟩)
 have V6:=aa v6
 have K:=l.2.2.1.c0;have L:=l.2.2.1.c1;have Q:=l.2.2.1.free 0;have T:=l.2.2.1.free 1
 clear l v6 i5
 go_upto_region 5 with(fail)
 refine ap (fun W=>qg w W g n5 a5 L5.length c5 m) (uH V6) ?_
 clear V6 K L Q T
 intro W5 l
 generalize L5.length=l5 at*
 have A:=aa l
 have K:=l.2.2.1.c0;have L:=l.2.2.1.c1;have Q:=l.2.2.1.free 0;have T:=l.2.2.1.free 1
 clear l
 go_wp2_with(first|(go_at_call 57;refine(uH KP _).mono ?_;rintro r G ⟨rfl,rfl⟩)|(go_at_call 60;refine(uH KN _).mono ?_;rintro r G ⟨rfl,rfl⟩))
 refine(uH KV _ _ (uH A).2.2.2.2).mono ?_
 rintro r w9 ⟨u,rfl,hu,O⟩
 have v9:=(uH A).below O
 have z:=v9.2.1
 have V9:=aa v9
 obtain⟨n9,a9,c9,L9,rfl,j9⟩:=hu
 have J:=aa (show aH w9 (.agg #[.bool n9,.slice a9 L9.length c9,.int .i64 Y]) X Y from⟨n9,a9,c9,L9,rfl,j9⟩)
 clear K L Q T
 have K:=z.c0;have L:=z.c1;have y2:=z.c2;have Q:=z.free 0;have T:=z.free 1;have f2:=z.free 2
 clear O v9 z A j9
 go_wp2
 exact bodyPost_ret (v:=.agg #[.bool n9,.slice a9 L9.length c9,.int .i64 Y]) (by simp[results,Tryz.results102,go_sem,K,L,y2]) rfl ⟨_,rfl,(uH J).put3 (uH V9).2.1 _ _ _,aE (uH V9).1 (Nat.le_refl _) _ _ _⟩
theorem vI(b:Nat)(p:Nat)(f:Nat)(I a1 m e X Y:Int)(w:World)(h1:0<p)(aj:IntKind.i64.wrap (f:Int)=I)
  (CF:∀l,Calls Tryz.prog 98 #[.int .u64 b] l fun r d=>r=.returned (.int .u64 f)∧l=d)
  (CP:∀l,Calls Tryz.prog 57 #[.int .u64 b] l fun r d=>r=.returned (.int .i64 p)∧l=d)
  (CN:∀l,Calls Tryz.prog 60 #[.int .u64 b] l fun r d=>r=.returned (.bool true)∧l=d)
  (CO:∀l,Calls Tryz.prog 120 #[.int .i64 I] l fun r d=>∃v,r=.returned v∧aG 2 l.heap.size d v I∧Below l.heap.size l d)
  (CV:∀l v,aG 2 0 l v (-m)→Calls Tryz.prog 122 #[v,.int .i64 e] l fun r d=>∃u,r=.returned u∧aH d u X Y∧Below l.heap.size l d)
  (K:IntKind.u64.wrap ((f:Int)+4503599627370496)=a1) (L:IntKind.i64.wrap a1=m) (w3:IntKind.i64.wrap ((p:Int)-1075)=e)
  (C1:∀l,Calls Tryz.prog 120 #[.int .i64 m] l fun r d=>∃v,r=.returned v∧aG 2 l.heap.size d v m∧Below l.heap.size l d)
  :Calls Tryz.prog 102 #[.int .u64 b] w fun r l=>∃u,r=.returned u∧aH l u X Y∧Below w.heap.size w l:=by
 have am:decide (0<p)=true:=decide_eq_true h1
 have KF:=aa CF;have KP:=aa CP;have KN:=aa CN;have KO:=aa CO;have KV:=aa CV
 clear CF CP CN CO CV
 have K1:=aa C1
 clear C1
 have M:Below w.heap.size w (w.alloc (.cells #[.bool false,.slice none 0 0,.int .i64 0] 110)):=(Below.refl _ _).alloc (Nat.le_refl _) _
 have B0:=aa M;have X2:=aa (aB.new w (.bool false) (.slice none 0 0) (.int .i64 0))
 clear M
 go_enter Tryz.func102,Tryz.ntmps102
 go_wp2_with(go_at_call 98;refine(uH KF _).mono ?_;rintro r L ⟨rfl,rfl⟩)
 refine(uH KO _).mono ?_
 rintro r K ⟨v,rfl,U,D⟩
 obtain⟨n1,A,c1,T,rfl,i1⟩:=U
 have b1:=(uH B0).trans (D.mono (uH B0).size)
 have N:qg w (K.alloc (.cells #[.bool n1,.slice A T.length c1] 108)) K.heap.size n1 A T.length c1 I:=
  ⟨b1.alloc b1.size _,((uH X2).all D).old _,aC.new _ _ _,by have:=D.size;simp at this;omega,(aG.zeroB ⟨n1,A,c1,T,rfl,i1⟩).below ((Below.refl _ _).alloc (Nat.le_refl _) _)⟩
 have V1:=aa N
 clear b1 N D i1 B0 X2 KO
 go_upto_region 3 with(fail)
 refine ap (fun W=>qg w W K.heap.size n1 A T.length c1 I) (uH V1) ?_
 clear V1
 intro W1 N
 generalize K.heap.size=g at*
 generalize T.length=l1 at*
 have t:=aa N
 clear N
 go_wp2_with(first|(go_at_call 57;refine(uH KP _).mono ?_;rintro r L ⟨rfl,rfl⟩)|(go_at_call 98;refine(uH KF _).mono ?_;rintro r L ⟨rfl,rfl⟩))
 refine(uH K1 _).mono ?_
 rintro r w5 ⟨v,rfl,U,V⟩
 have h:=(uH t).below V
 clear t V K1
 obtain⟨n5,a5,c5,L5,rfl,i5⟩:=U
 have O:=h.put (aG.zeroB ⟨n5,a5,c5,L5,rfl,i5⟩)
 have Q:=aa O
 have y:=h.2.2.1.c0;have z:=h.2.2.1.c1;have F:=h.2.2.1.free 0;have G:=h.2.2.1.free 1
 clear h O i5
 go_upto_region 5 with(fail)
 refine ap (fun W=>qg w W g n5 a5 L5.length c5 m) (uH Q) ?_
 clear Q y z F G
 intro W5 h
 generalize L5.length=l5 at*
 have t:=aa h
 have y:=h.2.2.1.c0;have z:=h.2.2.1.c1;have F:=h.2.2.1.free 0;have G:=h.2.2.1.free 1
 clear h
 go_wp2_with(first|(go_at_call 57;refine(uH KP _).mono ?_;rintro r L ⟨rfl,rfl⟩)|(go_at_call 60;refine(uH KN _).mono ?_;rintro r L ⟨rfl,rfl⟩))
 refine(ml (uH t).2.2.2.2 (by decide)).mono ?_
 rintro r w7 ⟨v,rfl,U,Z⟩
 have h:=(uH t).below Z
 clear t Z y z F G
 obtain⟨n7,a7,c7,L7,rfl,i7⟩:=U
 have O:=h.put ⟨n7,a7,c7,L7,rfl,i7⟩
 have Q:=aa O
 have y:=h.2.2.1.c0;have z:=h.2.2.1.c1;have F:=h.2.2.1.free 0;have G:=h.2.2.1.free 1
 clear h O i7
 go_upto_region 8 with(fail)
 refine ap (fun W=>qg w W g n7 a7 L7.length c7 _) (uH Q) ?_
 clear Q y z F G
 intro W7 h
 generalize L7.length=l7 at*
 have t:=aa h
 have y:=h.2.2.1.c0;have z:=h.2.2.1.c1;have F:=h.2.2.1.free 0;have G:=h.2.2.1.free 1
 clear h
 go_wp2_with fail
 refine(uH KV _ _ (uH t).2.2.2.2).mono ?_
 rintro r w9 ⟨u,rfl,hu,ae⟩
 have v9:=(uH t).below ae
 have H:=v9.2.1
 have V9:=aa v9
 obtain⟨n9,a9,c9,L9,rfl,j9⟩:=hu
 have J:=aa (show aH w9 (.agg #[.bool n9,.slice a9 L9.length c9,.int .i64 Y]) X Y from⟨n9,a9,c9,L9,rfl,j9⟩)
 clear y z F G
 have y:=H.c0;have z:=H.c1;have y2:=H.c2;have F:=H.free 0;have G:=H.free 1;have f2:=H.free 2
 clear ae v9 H t j9
 go_wp2
 exact bodyPost_ret (v:=.agg #[.bool n9,.slice a9 L9.length c9,.int .i64 Y]) (by simp[results,Tryz.results102,go_sem,y,z,y2]) rfl ⟨_,rfl,(uH J).put3 (uH V9).2.1 _ _ _,aE (uH V9).1 (Nat.le_refl _) _ _ _⟩
theorem jv(b:Nat)(w:World)(h:b<18446744073709551616):
  Calls Tryz.prog 102 #[.int .u64 b] w fun r d=>∃u,r=.returned u∧aH d u (fD b) (fX b)∧Below w.heap.size w d:=by
 have G:=fun d=>oy b d h
 have A:=fun d=>js b d h
 have l:=fun d=>fm b d h
 have N:=qn b
 have O:=lK b
 have Q:=yb b
 have H:fD b=oM (fM b):=rfl
 have I:fX b=oE (fM b) (fE b):=rfl
 have m:fM b=sg (fS b) (fA b):=rfl
 rw[H,I]
 by_cases D:fP b=0
 ·have t:fE b= -1074:=by unfold fE;rw[if_pos D]
  have y:fA b=fF b:=by unfold fA;rw[if_pos D]
  rw[D]at A
  have F:IntKind.i64.wrap (fF b:Int)=(fF b:Int):=by simp only[IntKind.wrap_i64];omega
  cases hs:fS b with
  |false=>
   rw[hs]at l m
   have z:(fF b:Int)=fM b:=by rw[m,y];rfl
   exact vF b (fF b) (fF b:Int) (fM b) (fE b) _ _ w F G A l (fun d=>fp _ d (by omega) (by omega)) (fun d v f=>gG (fE b) f (by decide) (by omega)) t z
  |true=>
   rw[hs]at l m
   have z:(fF b:Int)= -fM b:=by rw[m,y];simp[sg]
   refine vG b (fF b) (fF b:Int) (fF b:Int) (fE b) _ _ w F G A l (fun d=>fp _ d (by omega) (by omega)) (fun d v f=>?_) t rfl
   have:-(fF b:Int)=fM b:=by omega
   rw[this]at f
   exact gG (fE b) f (by decide) (by omega)
 ·have t:fE b=(fP b:Int)-1075:=by unfold fE;rw[if_neg D]
  have y:fA b=fF b+4503599627370496:=by unfold fA;rw[if_neg D]
  have F:IntKind.i64.wrap (fF b:Int)=(fF b:Int):=by simp only[IntKind.wrap_i64];omega
  have K:IntKind.u64.wrap ((fF b:Int)+4503599627370496)=(fA b:Int):=by simp only[IntKind.wrap_u64];omega
  have L:IntKind.i64.wrap (fA b:Int)=(fA b:Int):=by simp only[IntKind.wrap_i64];omega
  have M:IntKind.i64.wrap ((fP b:Int)-1075)=fE b:=by simp only[IntKind.wrap_i64];omega
  have T:=DX b
  cases hs:fS b with
  |false=>
   rw[hs]at l m
   have z:(fA b:Int)=fM b:=by rw[m];rfl
   refine vH b (fP b) (fF b) (fF b:Int) (fA b:Int) (fA b:Int) (fE b) _ _ w (by omega) F G A l (fun d=>fp _ d (by omega) (by omega)) (fun d v f=>?_) K L M (fun d=>fp _ d (by omega) (by omega))
   rw[z]at f
   exact gG (fE b) f (by decide) (by omega)
  |true=>
   rw[hs]at l m
   have z:-(fA b:Int)=fM b:=by rw[m];simp[sg]
   refine vI b (fP b) (fF b) (fF b:Int) (fA b:Int) (fA b:Int) (fE b) _ _ w (by omega) F G A l (fun d=>fp _ d (by omega) (by omega)) (fun d v f=>?_) K L M (fun d=>fp _ d (by omega) (by omega))
   rw[z]at f
   exact gG (fE b) f (by decide) (by omega)
theorem g9{L:List Nat}{n:Bool}(f:bd L)(h:aw n L=true):dn L=(bl (ah L):Int):=by
 rw[gH]
 by_cases d:L= []
 ·subst d;rfl
 ·obtain⟨l,m,t⟩:=gI L f (aA h).2.1 d
  rw[ov l m t]
theorem iW{B:Nat}{w:World}{v:Value}{z:Int}(t:ay B w v z)(y:-9223372036854775808≤z∧z≤9223372036854775807):
  Calls Tryz.prog 163 #[v] w fun e D=>e=.returned (.tuple #[.int .i64 z,.int .i64 0])∧Below w.heap.size w D:=by
 obtain⟨d,H,I,A,rfl,K,f,m,_⟩:=t.right (pt (k:=64) (by have:(2:Nat)^64=18446744073709551616:=(by decide);omega) (by decide))
 have h:=oG d H I A w K (by have:=(aA f).1;omega)
 have l:gX (ad d A)=true:=by unfold gX;rw[m];exact decide_eq_true y
 have F:qf d A=z:=by unfold qf;rw[f,l];simpa using m
 have G:qe d A=0:=by unfold qe;rw[f,l];rfl
 rw[F,G]at h
 exact h
theorem vJ(n:Nat)(h:n<1152921504606846976):bits .and .i64 (n:Int) 1=((n%2:Nat):Int):=by
 have d:=Go.bits_nat .i64 62 (by decide) (fun x l d=>by rw[IntKind.wrap_i64];simp at d;omega) n 1 (by simp;omega) (by decide)
 have f:=d.1
 refine f.trans ?_
 rw[Nat.and_one_is_mod]
theorem vK(n:Nat)(h:n<1152921504606846976):bits .and .i64 (n:Int) 2=((2*(n/2%2):Nat):Int):=by
 have d:=Go.bits_nat .i64 62 (by decide) (fun x t d=>by rw[IntKind.wrap_i64];simp at d;omega) n 2 (by simp;omega) (by decide)
 have l:=d.1
 refine l.trans ?_
 have m:(n&&& 2)%2=0:=by
  have:=Nat.and_mod_two_pow (a:=n) (b:=2) (n:=1)
  simpa using this
 have f:(n&&& 2)/2=(n/2)&&& 1:=by
  have:=Nat.and_div_two_pow (a:=n) (b:=2) (n:=1)
  simpa using this
 rw[Nat.and_one_is_mod]at f
 have:=Nat.div_add_mod (n&&& 2) 2
 rw[m,f]at this
 congr 1
 omega
theorem vL(F:Bool)(h:Option Addr)(m l N:Nat)(E d:Int)(q:Bool)(w:World)(hE:-20000≤E∧E≤20000)(hL:-20000≤d∧d≤20000)(ae:(0:Int)≤N)(hN:(N:Int)<1152921504606846976)
  (V:∀t,Below w.heap.size w t→Calls Tryz.prog 162 #[.agg #[.bool false,.slice h l m],.int .i64 (E-d+1)] t fun e A=>∃v,e=.returned (.tuple #[v,.int .i64 0])∧ay t.heap.size A v N∧Below t.heap.size t A)
  (p1:bits .and .i64 (N:Int) 1=0) (t1:(E==d-1)=q):
  Calls Tryz.prog 185 #[.agg #[.bool F,.slice h l m,.int .i64 E],.int .i64 d] w fun e t=>e=.returned (.int .u64 ((N/2:Nat):Int))∧Below w.heap.size w t:=by
 have X:=aa V
 clear V
 obtain⟨r1,r2⟩:=hE
 obtain⟨r3,r4⟩:=hL
 have D:Below w.heap.size w ((w.alloc (.cells #[.bool F,.slice h l m,.int .i64 E] 110)).alloc (.cells #[.bool false,.slice h l m] 108)):=((Below.refl _ _).alloc (Nat.le_refl _) _).alloc (by simp) _
 have G:=aa D
 have Y:=aa (show aB ((w.alloc (.cells #[.bool F,.slice h l m,.int .i64 E] 110)).alloc (.cells #[.bool false,.slice h l m] 108)) w.heap.size (.bool F) (.slice h l m) (.int .i64 E)from(aB.new _ _ _ _).old _)
 clear D
 go_enter Tryz.func185,Tryz.ntmps185
 go_wp2_with fail
 refine(uH X _ (uH G)).mono ?_
 rintro e L ⟨v,rfl,hv,y⟩
 have M:=(uH G).trans (y.mono (uH G).size)
 have Z:=(uH Y).all y
 obtain⟨Q,T,U,I,rfl,K⟩:=hv
 have f:Below L.heap.size L (L.alloc (.cells #[.bool Q,.slice T I.length U] 108)):=(Below.refl _ _).alloc (Nat.le_refl _) _
 have HV:=aa ((show ay 0 L (.agg #[.bool Q,.slice T I.length U]) N from⟨Q,T,U,I,rfl,K.1,bI.zero K.1,K.2.2⟩).below f)
 have O:=aa (M.trans (f.mono M.size))
 have X2:=aa (Z.all f)
 clear y M Z K f G Y X
 generalize I.length=l1 at*
 go_wp2_with fail
 refine(iW (uH HV) (by omega)).mono ?_
 rintro e w3 ⟨rfl,z⟩
 have H:=(uH X2).all z
 have B3:=aa ((uH O).trans (z.mono (uH O).size))
 have y0:=H.c0;have y1:=H.c1;have y2:=H.c2
 clear z H X2 O HV
 go_wp2
 go_ret
 exact⟨rfl,uH B3⟩
theorem vM(F:Bool)(h:Option Addr)(m l N:Nat)(E d:Int)(w:World)(hE:-20000≤E∧E≤20000)(hL:-20000≤d∧d≤20000)(ae:(0:Int)≤N)(hN:(N:Int)<1152921504606846976)
  (V:∀t,Below w.heap.size w t→Calls Tryz.prog 162 #[.agg #[.bool false,.slice h l m],.int .i64 (E-d+1)] t fun e A=>∃v,e=.returned (.tuple #[v,.int .i64 0])∧ay t.heap.size A v N∧Below t.heap.size t A)
  (p1:bits .and .i64 (N:Int) 1=1) (t1:(E==d-1)=false):
  Calls Tryz.prog 185 #[.agg #[.bool F,.slice h l m,.int .i64 E],.int .i64 d] w fun e t=>e=.returned (.int .u64 (((N+1)/2:Nat):Int))∧Below w.heap.size w t:=by
 have X:=aa V
 clear V
 obtain⟨r1,r2⟩:=hE
 obtain⟨r3,r4⟩:=hL
 have D:Below w.heap.size w ((w.alloc (.cells #[.bool F,.slice h l m,.int .i64 E] 110)).alloc (.cells #[.bool false,.slice h l m] 108)):=((Below.refl _ _).alloc (Nat.le_refl _) _).alloc (by simp) _
 have G:=aa D
 have Y:=aa (show aB ((w.alloc (.cells #[.bool F,.slice h l m,.int .i64 E] 110)).alloc (.cells #[.bool false,.slice h l m] 108)) w.heap.size (.bool F) (.slice h l m) (.int .i64 E)from(aB.new _ _ _ _).old _)
 clear D
 go_enter Tryz.func185,Tryz.ntmps185
 go_wp2_with fail
 refine(uH X _ (uH G)).mono ?_
 rintro e L ⟨v,rfl,hv,y⟩
 have M:=(uH G).trans (y.mono (uH G).size)
 have Z:=(uH Y).all y
 obtain⟨Q,T,U,I,rfl,K⟩:=hv
 have f:Below L.heap.size L (L.alloc (.cells #[.bool Q,.slice T I.length U] 108)):=(Below.refl _ _).alloc (Nat.le_refl _) _
 have HV:=aa ((show ay 0 L (.agg #[.bool Q,.slice T I.length U]) N from⟨Q,T,U,I,rfl,K.1,bI.zero K.1,K.2.2⟩).below f)
 have O:=aa (M.trans (f.mono M.size))
 have X2:=aa (Z.all f)
 clear y M Z K f G Y X
 generalize I.length=l1 at*
 go_wp2_with fail
 refine(iW (uH HV) (by omega)).mono ?_
 rintro e w3 ⟨rfl,z⟩
 have H:=(uH X2).all z
 have B3:=aa ((uH O).trans (z.mono (uH O).size))
 have y0:=H.c0;have y1:=H.c1;have y2:=H.c2
 clear z H X2 O HV
 go_wp2
 go_ret
 exact⟨rfl,uH B3⟩
theorem vN(F:Bool)(h:Option Addr)(m l N:Nat)(E d:Int)(w:World)(hE:-20000≤E∧E≤20000)(hL:-20000≤d∧d≤20000)(ae:(0:Int)≤N)(hN:(N:Int)<1152921504606846976)
  (V:∀t,Below w.heap.size w t→Calls Tryz.prog 162 #[.agg #[.bool false,.slice h l m],.int .i64 (E-d+1)] t fun e A=>∃v,e=.returned (.tuple #[v,.int .i64 0])∧ay t.heap.size A v N∧Below t.heap.size t A)
  (p1:bits .and .i64 (N:Int) 1=1) (t1:(E==d-1)=true) (p2:bits .and .i64 (N:Int) 2=2):
  Calls Tryz.prog 185 #[.agg #[.bool F,.slice h l m,.int .i64 E],.int .i64 d] w fun e t=>e=.returned (.int .u64 (((N+1)/2:Nat):Int))∧Below w.heap.size w t:=by
 have X:=aa V
 clear V
 obtain⟨r1,r2⟩:=hE
 obtain⟨r3,r4⟩:=hL
 have D:Below w.heap.size w ((w.alloc (.cells #[.bool F,.slice h l m,.int .i64 E] 110)).alloc (.cells #[.bool false,.slice h l m] 108)):=((Below.refl _ _).alloc (Nat.le_refl _) _).alloc (by simp) _
 have G:=aa D
 have Y:=aa (show aB ((w.alloc (.cells #[.bool F,.slice h l m,.int .i64 E] 110)).alloc (.cells #[.bool false,.slice h l m] 108)) w.heap.size (.bool F) (.slice h l m) (.int .i64 E)from(aB.new _ _ _ _).old _)
 clear D
 go_enter Tryz.func185,Tryz.ntmps185
 go_wp2_with fail
 refine(uH X _ (uH G)).mono ?_
 rintro e L ⟨v,rfl,hv,y⟩
 have M:=(uH G).trans (y.mono (uH G).size)
 have Z:=(uH Y).all y
 obtain⟨Q,T,U,I,rfl,K⟩:=hv
 have f:Below L.heap.size L (L.alloc (.cells #[.bool Q,.slice T I.length U] 108)):=(Below.refl _ _).alloc (Nat.le_refl _) _
 have HV:=aa ((show ay 0 L (.agg #[.bool Q,.slice T I.length U]) N from⟨Q,T,U,I,rfl,K.1,bI.zero K.1,K.2.2⟩).below f)
 have O:=aa (M.trans (f.mono M.size))
 have X2:=aa (Z.all f)
 clear y M Z K f G Y X
 generalize I.length=l1 at*
 go_wp2_with fail
 refine(iW (uH HV) (by omega)).mono ?_
 rintro e w3 ⟨rfl,z⟩
 have H:=(uH X2).all z
 have B3:=aa ((uH O).trans (z.mono (uH O).size))
 have y0:=H.c0;have y1:=H.c1;have y2:=H.c2
 clear z H X2 O HV
 go_wp2
 go_ret
 exact⟨rfl,uH B3⟩
theorem vO(F:Bool)(h:Option Addr)(m l N:Nat)(E d:Int)(w:World)(hE:-20000≤E∧E≤20000)(hL:-20000≤d∧d≤20000)(ae:(0:Int)≤N)(hN:(N:Int)<1152921504606846976)
  (V:∀t,Below w.heap.size w t→Calls Tryz.prog 162 #[.agg #[.bool false,.slice h l m],.int .i64 (E-d+1)] t fun e A=>∃v,e=.returned (.tuple #[v,.int .i64 0])∧ay t.heap.size A v N∧Below t.heap.size t A)
  (p1:bits .and .i64 (N:Int) 1=1) (t1:(E==d-1)=true) (p2:bits .and .i64 (N:Int) 2=0):
  Calls Tryz.prog 185 #[.agg #[.bool F,.slice h l m,.int .i64 E],.int .i64 d] w fun e t=>e=.returned (.int .u64 ((N/2:Nat):Int))∧Below w.heap.size w t:=by
 have X:=aa V
 clear V
 obtain⟨r1,r2⟩:=hE
 obtain⟨r3,r4⟩:=hL
 have D:Below w.heap.size w ((w.alloc (.cells #[.bool F,.slice h l m,.int .i64 E] 110)).alloc (.cells #[.bool false,.slice h l m] 108)):=((Below.refl _ _).alloc (Nat.le_refl _) _).alloc (by simp) _
 have G:=aa D
 have Y:=aa (show aB ((w.alloc (.cells #[.bool F,.slice h l m,.int .i64 E] 110)).alloc (.cells #[.bool false,.slice h l m] 108)) w.heap.size (.bool F) (.slice h l m) (.int .i64 E)from(aB.new _ _ _ _).old _)
 clear D
 go_enter Tryz.func185,Tryz.ntmps185
 go_wp2_with fail
 refine(uH X _ (uH G)).mono ?_
 rintro e L ⟨v,rfl,hv,y⟩
 have M:=(uH G).trans (y.mono (uH G).size)
 have Z:=(uH Y).all y
 obtain⟨Q,T,U,I,rfl,K⟩:=hv
 have f:Below L.heap.size L (L.alloc (.cells #[.bool Q,.slice T I.length U] 108)):=(Below.refl _ _).alloc (Nat.le_refl _) _
 have HV:=aa ((show ay 0 L (.agg #[.bool Q,.slice T I.length U]) N from⟨Q,T,U,I,rfl,K.1,bI.zero K.1,K.2.2⟩).below f)
 have O:=aa (M.trans (f.mono M.size))
 have X2:=aa (Z.all f)
 clear y M Z K f G Y X
 generalize I.length=l1 at*
 go_wp2_with fail
 refine(iW (uH HV) (by omega)).mono ?_
 rintro e w3 ⟨rfl,z⟩
 have H:=(uH X2).all z
 have B3:=aa ((uH O).trans (z.mono (uH O).size))
 have y0:=H.c0;have y1:=H.c1;have y2:=H.c2
 clear z H X2 O HV
 go_wp2
 go_ret
 exact⟨rfl,uH B3⟩
theorem BS{n:Bool}{L:List Nat}{e:Int}(h:jF n L e=true)(d:L≠ []):ah L%2=1:=by
 unfold jF at h
 have l:L.length≠0:=fun f=>d (List.length_eq_zero_iff.1 f)
 rw[if_neg l]at h
 simp only[Bool.and_eq_true,decide_eq_true_eq]at h
 exact h.2.1
theorem sO{n:Bool}{L:List Nat}(h:aw n L=true):aw false L=true:=by
 unfold aw at*
 revert h
 cases n<;>simp
 intro d l f
 exact⟨d,f⟩
theorem yn{l:Bool}{A:List Nat}(j:Int)(m:aw l A=true)(t:-16384≤j+1∧j+1≤16384)(y:pN (ah A) j<1152921504606846976):
  si false A (j+1)=0∧qz false A (j+1)=(pN (ah A) j:Int):=by
 have d:ks false A (j+1)=true:=by unfold ks;rw[sO m,decide_eq_true t];rfl
 have f:nK false A (j+1)=(pN (ah A) j:Int):=by unfold nK pN sg;rfl
 have h:(nK false A (j+1)).natAbs<di:=by
  rw[f]
  exact pt (k:=60) (by have:(2:Nat)^60=1152921504606846976:=(by decide);omega) (by decide)
 unfold si qz
 rw[if_pos d,if_pos d,eO _ h,eP _ h,f]
 exact⟨rfl,rfl⟩
theorem qM(t:Bool)(l:Option Addr)(m:Nat)(A:List Nat)(E d:Int)(w:World)(X:af w l m A)(U:jF t A E=true)(Y:A≠ [])(hL:-2000≤d∧d≤2000)(Z:-16384≤E-d+1∧E-d+1≤16384)(I:pN (ah A) (E-d)<1152921504606846976):
  Calls Tryz.prog 185 #[.agg #[.bool t,.slice l A.length m,.int .i64 E],.int .i64 d] w fun e f=>e=.returned (.int .u64 (mS (ah A) (E-d):Nat))∧Below w.heap.size w f:=by
 obtain⟨d1,d2,d3,d4,d5⟩:=bQ U
 have ho:=BS U Y
 obtain⟨s1,s2⟩:=yn (E-d) d1 Z I
 have D:∀f,Below w.heap.size w f→Calls Tryz.prog 162 #[.agg #[.bool false,.slice l A.length m],.int .i64 (E-d+1)] f fun e z=>∃v,e=.returned (.tuple #[v,.int .i64 0])∧ay f.heap.size z v (pN (ah A) (E-d))∧Below f.heap.size f z:=by
  intro f hb
  have:=gE false l m A (E-d+1) f (X.below hb) (by omega) (by omega)
  rw[s1,s2]at this
  exact this
 have y:=vJ _ I
 have F:=vK _ I
 rw[←FP _ _ ho]
 have K:pM (ah A) (E-d)=(pN (ah A) (E-d)+(FJ (ah A) (E-d)).toNat)/2:=rfl
 have L:FJ (ah A) (E-d)=(decide (pN (ah A) (E-d)%2=1)&&(!decide (E-d= -1)||decide (pN (ah A) (E-d)/2%2=1))):=rfl
 rw[K,L]
 generalize pN (ah A) (E-d)=N at*
 have G:-20000≤E∧E≤20000:=by omega
 have h:-20000≤d∧d≤20000:=by omega
 by_cases M:N%2=1
 ·rw[M]at y
  rw[decide_eq_true M]
  by_cases V:E-d= -1
  ·have H:(E==d-1)=true:=by simp;omega
   rw[decide_eq_true V]
   by_cases O:N/2%2=1
   ·rw[O]at F
    rw[decide_eq_true O]
    exact vN t l m A.length N E d w G h (by omega) (by omega) D y H F
   ·have Q:N/2%2=0:=by omega
    rw[Q]at F
    rw[decide_eq_false O]
    exact vO t l m A.length N E d w G h (by omega) (by omega) D y H F
  ·have H:(E==d-1)=false:=by simp;omega
   rw[decide_eq_false V]
   exact vM t l m A.length N E d w G h (by omega) (by omega) D y H
 ·have T:N%2=0:=by omega
  rw[T]at y
  rw[decide_eq_false M]
  exact vL t l m A.length N E d _ w G h (by omega) (by omega) D y rfl
end Go.Proofs.YtenpggicmfhhdaaGreatDoor
