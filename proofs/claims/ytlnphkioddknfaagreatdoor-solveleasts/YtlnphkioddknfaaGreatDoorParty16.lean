/- Part 16 of the texts. -/
import Derived.Test.YtlnphkioddknfaaGreatDoorParty15
import Derived.Deep.Cut
set_option maxHeartbeats 4000000
namespace Go.Proofs.YtlnphkioddknfaaGreatDoor
open Go.RowKit
def fD(b:Nat):Int:=oM (fM b)
def fX(b:Nat):Int:=oE (fM b) (fE b)
theorem IY(b:Nat)(h:fM b≠0):tz (fM b).natAbs<53:=lU _ _ (by omega) (by rw[Ah];exact se b)
theorem I4(b:Nat):cP (fM b) (fE b)=0∧dM (fM b) (fE b)=fD b∧dX (fM b) (fE b)=fX b:=by
 have h:=Ay b
 have d:lh (fM b) (fE b)=true:=by
  unfold lh
  rw[decide_eq_true (by omega)]
  by_cases f:fM b=0
  ·rw[decide_eq_true f];rfl
  ·have:=IY b f
   rw[decide_eq_true (p:=-16384≤_∧_) (by omega)]
   simp
 unfold cP dM dX
 rw[if_pos d,if_pos d,if_pos d]
 exact⟨rfl,rfl,rfl⟩
theorem GR(b:Nat):(fM b).natAbs<dy:=qC (k:=53) (by rw[Ah];exact se b) (by decide)
theorem GT(b:Nat)(w:World)(h:b<18446744073709551616)(z:aC b=false):
  Calls Tryz.prog 203 #[.int .u64 b] w fun r m=>mn m r 7 0 0∧Below w.heap.size w m:=by
 have t:=aa (fun m=>d7 b m h)
 rw[z]at t
 clear z h
 have l:Below w.heap.size w (w.alloc (.cells #[.bool false,.slice none 0 0,.int .i64 0] 47)):=(Below.refl _ _).alloc (Nat.le_refl _) _
 have y:=aa l;have A:=aa (az.new w (.bool false) (.slice none 0 0) (.int .i64 0))
 clear l
 go_enter Tryz.func203,Tryz.ntmps203
 go_wp2_with fail
 refine(uH t _).mono ?_
 rintro r M ⟨rfl,f⟩
 have d:=(uH A).all f
 have D:=aa ((uH y).trans (f.mono (uH y).size))
 have F:=d.c0;have G:=d.c1;have H:=d.c2;have I:=d.free 0;have K:=d.free 1;have L:=d.free 2
 clear f d A y t
 go_wp2
 exact bodyPost_ret (v:=.tuple #[.agg #[.bool false,.slice none 0 0,.int .i64 0],.int .i64 7]) (by simp[results,Tryz.results203,go_sem,F,G,H]) rfl ⟨⟨_,rfl,aG.zero _ _ _⟩,aD (uH D) (Nat.le_refl _) _ _ _⟩
theorem df(b:Nat)(w:World)(h:b<18446744073709551616)(hf:aC b=true)(hT:b7 w):
  Calls Tryz.prog 203 #[.int .u64 b] w fun r d=>mn d r 0 (fD b) (fX b)∧Below w.heap.size w d:=by
 have I:=aa (fun d=>d7 b d h)
 rw[hf]at I
 have CS:=aa (fun d=>eO b d h)
 have CP:=aa (fun d=>xX b d)
 have CO:=aa (fun d=>uG (fM b) d (by have:=se b;omega) (by have:=se b;omega))
 obtain⟨k1,k2,k3⟩:=I4 b
 have K:=aa (fun d v B (H:aw B d v (fM b)) (t:b7 d)=>jf (fE b) H (GR b) (by have:=Ay b;omega) t)
 rw[k1,k2,k3]at K
 clear k1 k2 k3
 unfold fV at*
 generalize fM b=m at*
 generalize fE b=e at*
 generalize fD b=M at*
 generalize fX b=X at*
 generalize fS b=s at*
 generalize fP b=p at*
 generalize fF b=f at*
 clear hf h
 have G:Below w.heap.size w (w.alloc (.cells #[.bool false,.slice none 0 0,.int .i64 0] 47)):=(Below.refl _ _).alloc (Nat.le_refl _) _
 have L:=aa G;have X2:=aa (az.new w (.bool false) (.slice none 0 0) (.int .i64 0))
 clear G
 go_enter Tryz.func203,Tryz.ntmps203
 go_wp2_with fail
 refine(uH I _).mono ?_
 rintro r w1 ⟨rfl,y⟩
 have X3:=aa ((uH X2).all y)
 have N:=aa ((uH L).trans (y.mono (uH L).size))
 clear y X2 L I
 go_wp2_with fail
 refine(uH CS _).mono ?_
 rintro r w2 ⟨rfl,z⟩
 have X4:=aa ((uH X3).all z)
 have O:=aa ((uH N).trans (z.mono (uH N).size))
 clear z X3 N CS
 go_wp2_with fail
 refine(uH CP _).mono ?_
 rintro r w3 ⟨rfl,A⟩
 have X5:=aa ((uH X4).all A)
 have Q:=aa ((uH O).trans (A.mono (uH O).size))
 clear A X4 O CP
 go_wp2_with fail
 refine(uH CO _).mono ?_
 rintro r w4 ⟨v,rfl,H,D⟩
 have X6:=aa ((uH X5).all D)
 have U:=(uH Q).trans (D.mono (uH Q).size)
 have V:=aa U
 have HT:=aa (hT.all U)
 have HV:=aa H
 clear D X5 Q CO U H
 go_wp2_with fail
 refine(uH K _ _ _ (uH HV) (uH HT)).mono ?_
 rintro r w5 ⟨u,rfl,hu,F⟩
 have l:=(uH X6).all F
 have X7:=aa l
 have B5:=aa ((uH V).trans (F.mono (uH V).size))
 obtain⟨Y,Z,c2,L2,rfl,j2⟩:=hu
 have J:=aa (show aG w5 (.agg #[.bool Y,.slice Z L2.length c2,.int .i64 X]) M X from⟨Y,Z,c2,L2,rfl,j2⟩)
 have y0:=l.c0;have y1:=l.c1;have y2:=l.c2;have f0:=l.free 0;have f1:=l.free 1;have f2:=l.free 2
 clear F l X6 V K j2
 go_wp2
 exact bodyPost_ret (v:=.tuple #[.agg #[.bool Y,.slice Z L2.length c2,.int .i64 X],.int .i64 0]) (by simp[results,Tryz.results203,go_sem,y0,y1,y2]) rfl ⟨⟨_,rfl,(uH J).put3 (uH X7) _ _ _⟩,aD (uH B5) (Nat.le_refl _) _ _ _⟩
theorem nm{M B:Nat}{w:World}{v:Value}{z:Int}(h:aE M B w v z)(D:M≤1000000):
  Calls Tryz.prog 132 #[v] w fun e d=>∃u,e=.returned u∧aE M 0 d u (-z)∧Below w.heap.size w d:=by
 obtain⟨n,a,c,L,rfl,l,F,G,m,t,y⟩:=h
 refine(mX n a c L w l (by omega)).mono ?_
 rintro e d ⟨u,rfl,f,A⟩
 rw[j4 m t]at f
 exact⟨u,rfl,f.more y,A⟩
def rF(w W:World)(g:Nat)(n:Bool)(a:Option Addr)(l c:Nat)(z:Int):Prop:=
 Below w.heap.size w W∧az W w.heap.size (.bool false) (.slice none 0 0) (.int .i64 0)∧aA W g (.bool n) (.slice a l c)∧w.heap.size<g∧aE 2 0 W (.agg #[.bool n,.slice a l c]) z
theorem aE.zeroB{M B:Nat}{w:World}{v:Value}{x:Int}(h:aE M B w v x):aE M 0 w v x:=by
 obtain⟨neg,ao,cap,L,f,d,m,l⟩:=h
 exact⟨neg,ao,cap,L,f,d,bN.zero d,l⟩
theorem aE.box{M B:Nat}{w:World}{v:Value}{x:Int}(h:aE M B w v x){g:Nat}{y:Bool}{a:Option Addr}{n c:Nat}(d:aA w g (.bool y) (.slice a n c))(u u':Value):aE M B ((w.setCell ⟨g,0,none⟩ u).setCell ⟨g,1,none⟩ u') v x:=by
 obtain⟨neg,ao,cap,L,f,l,m⟩:=h
 exact⟨neg,ao,cap,L,f,l.box d u u',m⟩
theorem rF.below{w W f:World}{g:Nat}{n:Bool}{a:Option Addr}{l c:Nat}{z:Int}(h:rF w W g n a l c z)(d:Below W.heap.size W f):rF w f g n a l c z:=
 ⟨h.1.trans (d.mono h.1.size),h.2.1.all d,h.2.2.1.all d,h.2.2.2.1,h.2.2.2.2.below d⟩
theorem rF.put{w W:World}{g:Nat}{n d:Bool}{a f:Option Addr}{l c m t:Nat}{z y:Int}(h:rF w W g n a l c z)(D:aE 2 0 W (.agg #[.bool d,.slice f m t]) y):
  rF w ((W.setCell ⟨g,0,none⟩ (.bool d)).setCell ⟨g,1,none⟩ (.slice f m t)) g d f m t y:=by
 obtain⟨F,G,A,H,I⟩:=h
 exact⟨bS F (by omega) _ _,(G.other (by simp;omega) _).other (by simp;omega) _,A.put _ _,H,D.box A _ _⟩
theorem yb(b:Nat)(f:Nat)(A m e X Y:Int)(w:World)(ae:IntKind.i64.wrap (f:Int)=A)
  (CF:∀h,Calls Tryz.prog 106 #[.int .u64 b] h fun r d=>r=.returned (.int .u64 f)∧h=d)
  (CP:∀h,Calls Tryz.prog 105 #[.int .u64 b] h fun r d=>r=.returned (.int .i64 0)∧h=d)
  (CN:∀h,Calls Tryz.prog 120 #[.int .u64 b] h fun r d=>r=.returned (.bool false)∧h=d)
  (CO:∀h,Calls Tryz.prog 89 #[.int .i64 A] h fun r d=>∃v,r=.returned v∧aE 2 h.heap.size d v A∧Below h.heap.size h d)
  (CV:∀h v,aE 2 0 h v m→Calls Tryz.prog 83 #[v,.int .i64 e] h fun r d=>∃u,r=.returned u∧aG d u X Y∧Below h.heap.size h d)
  (he:e= -1074) (hm:A=m)
  :Calls Tryz.prog 77 #[.int .u64 b] w fun r h=>∃u,r=.returned u∧aG h u X Y∧Below w.heap.size w h:=by
 subst he hm
 have KF:=aa CF;have KP:=aa CP;have KN:=aa CN;have KO:=aa CO;have KV:=aa CV
 clear CF CP CN CO CV
 have D:Below w.heap.size w (w.alloc (.cells #[.bool false,.slice none 0 0,.int .i64 0] 47)):=(Below.refl _ _).alloc (Nat.le_refl _) _
 have L:=aa D;have X2:=aa (az.new w (.bool false) (.slice none 0 0) (.int .i64 0))
 clear D
 go_enter Tryz.func77,Tryz.ntmps77
 go_wp2_with(go_at_call 106;refine(uH KF _).mono ?_;rintro r w2 ⟨rfl,rfl⟩)
 refine(uH KO _).mono ?_
 rintro r K ⟨v,rfl,hv,y⟩
 obtain⟨H,t,I,F,rfl,i1⟩:=hv
 have M:=(uH L).trans (y.mono (uH L).size)
 have l:rF w (K.alloc (.cells #[.bool H,.slice t F.length I] 45)) K.heap.size H t F.length I A:=
  ⟨M.alloc M.size _,((uH X2).all y).old _,aA.new _ _ _,by have:=y.size;simp at this;omega,(aE.zeroB ⟨H,t,I,F,rfl,i1⟩).below ((Below.refl _ _).alloc (Nat.le_refl _) _)⟩
 have V1:=aa l
 clear M l y i1 L X2 KO
 go_upto_region 3 with(fail)
 refine au (fun W=>rF w W K.heap.size H t F.length I A) (uH V1) ?_
 clear V1
 intro W1 l
 generalize K.heap.size=g at*
 generalize F.length=l1 at*
 have N:=aa l
 have O:=l.2.2.1.c0;have Q:=l.2.2.1.c1;have f0:=l.2.2.1.free 0;have f1:=l.2.2.1.free 1
 clear l
 go_wp2_with(first|(go_at_call 105;refine(uH KP _).mono ?_;rintro r w2 ⟨rfl,rfl⟩)|(go_at_call 120;refine(uH KN _).mono ?_;rintro r w2 ⟨rfl,rfl⟩))
 refine(uH KV _ _ (uH N).2.2.2.2).mono ?_
 rintro r w9 ⟨u,rfl,hu,G⟩
 have U:=(uH N).below G
 have z:=U.2.1
 have V9:=aa U
 obtain⟨V,Z,c9,L9,rfl,j9⟩:=hu
 have J:=aa (show aG w9 (.agg #[.bool V,.slice Z L9.length c9,.int .i64 Y]) X Y from⟨V,Z,c9,L9,rfl,j9⟩)
 clear O Q f0 f1
 have O:=z.c0;have Q:=z.c1;have y2:=z.c2;have f0:=z.free 0;have f1:=z.free 1;have f2:=z.free 2
 clear G U z N j9
 go_wp2
 exact bodyPost_ret (v:=.agg #[.bool V,.slice Z L9.length c9,.int .i64 Y]) (by simp[results,Tryz.results77,go_sem,O,Q,y2]) rfl ⟨_,rfl,(uH J).put3 (uH V9).2.1 _ _ _,aD (uH V9).1 (Nat.le_refl _) _ _ _⟩
theorem ye(b:Nat)(f:Nat)(H m e X Y:Int)(w:World)(ae:IntKind.i64.wrap (f:Int)=H)
  (CF:∀h,Calls Tryz.prog 106 #[.int .u64 b] h fun r d=>r=.returned (.int .u64 f)∧h=d)
  (CP:∀h,Calls Tryz.prog 105 #[.int .u64 b] h fun r d=>r=.returned (.int .i64 0)∧h=d)
  (CN:∀h,Calls Tryz.prog 120 #[.int .u64 b] h fun r d=>r=.returned (.bool true)∧h=d)
  (CO:∀h,Calls Tryz.prog 89 #[.int .i64 H] h fun r d=>∃v,r=.returned v∧aE 2 h.heap.size d v H∧Below h.heap.size h d)
  (CV:∀h v,aE 2 0 h v (-m)→Calls Tryz.prog 83 #[v,.int .i64 e] h fun r d=>∃u,r=.returned u∧aG d u X Y∧Below h.heap.size h d)
  (he:e= -1074) (hm:H=m)
  :Calls Tryz.prog 77 #[.int .u64 b] w fun r h=>∃u,r=.returned u∧aG h u X Y∧Below w.heap.size w h:=by
 subst he hm
 have KF:=aa CF;have KP:=aa CP;have KN:=aa CN;have KO:=aa CO;have KV:=aa CV
 clear CF CP CN CO CV
 have L:Below w.heap.size w (w.alloc (.cells #[.bool false,.slice none 0 0,.int .i64 0] 47)):=(Below.refl _ _).alloc (Nat.le_refl _) _
 have Z:=aa L;have X2:=aa (az.new w (.bool false) (.slice none 0 0) (.int .i64 0))
 clear L
 go_enter Tryz.func77,Tryz.ntmps77
 go_wp2_with(go_at_call 106;refine(uH KF _).mono ?_;rintro r w2 ⟨rfl,rfl⟩)
 refine(uH KO _).mono ?_
 rintro r V ⟨v,rfl,hv,z⟩
 obtain⟨Q,y,U,M,rfl,i1⟩:=hv
 have b1:=(uH Z).trans (z.mono (uH Z).size)
 have t:rF w (V.alloc (.cells #[.bool Q,.slice y M.length U] 45)) V.heap.size Q y M.length U H:=
  ⟨b1.alloc b1.size _,((uH X2).all z).old _,aA.new _ _ _,by have:=z.size;simp at this;omega,(aE.zeroB ⟨Q,y,U,M,rfl,i1⟩).below ((Below.refl _ _).alloc (Nat.le_refl _) _)⟩
 have V1:=aa t
 clear b1 t z i1 Z X2 KO
 go_upto_region 3 with(fail)
 refine au (fun W=>rF w W V.heap.size Q y M.length U H) (uH V1) ?_
 clear V1
 intro W1 t
 generalize V.heap.size=g at*
 generalize M.length=l1 at*
 have A:=aa t
 have D:=t.2.2.1.c0;have F:=t.2.2.1.c1;have I:=t.2.2.1.free 0;have K:=t.2.2.1.free 1
 clear t
 go_wp2_with(first|(go_at_call 105;refine(uH KP _).mono ?_;rintro r w2 ⟨rfl,rfl⟩)|(go_at_call 120;refine(uH KN _).mono ?_;rintro r w2 ⟨rfl,rfl⟩))
 refine(nm (uH A).2.2.2.2 (by decide)).mono ?_
 rintro r w7 ⟨v,rfl,hv,N⟩
 have l:=(uH A).below N
 clear A N D F I K
 obtain⟨n7,a7,c7,L7,rfl,i7⟩:=hv
 have v6:=l.put ⟨n7,a7,c7,L7,rfl,i7⟩
 have V6:=aa v6
 have D:=l.2.2.1.c0;have F:=l.2.2.1.c1;have I:=l.2.2.1.free 0;have K:=l.2.2.1.free 1
 clear l v6 i7
 go_upto_region 8 with(fail)
 refine au (fun W=>rF w W g n7 a7 L7.length c7 _) (uH V6) ?_
 clear V6 D F I K
 intro W7 l
 generalize L7.length=l7 at*
 have A:=aa l
 have D:=l.2.2.1.c0;have F:=l.2.2.1.c1;have I:=l.2.2.1.free 0;have K:=l.2.2.1.free 1
 clear l
 go_wp2_with fail
 refine(uH KV _ _ (uH A).2.2.2.2).mono ?_
 rintro r w9 ⟨u,rfl,hu,O⟩
 have v9:=(uH A).below O
 have G:=v9.2.1
 have V9:=aa v9
 obtain⟨n9,a9,c9,L9,rfl,j9⟩:=hu
 have J:=aa (show aG w9 (.agg #[.bool n9,.slice a9 L9.length c9,.int .i64 Y]) X Y from⟨n9,a9,c9,L9,rfl,j9⟩)
 clear D F I K
 have D:=G.c0;have F:=G.c1;have y2:=G.c2;have I:=G.free 0;have K:=G.free 1;have f2:=G.free 2
 clear O v9 G A j9
 go_wp2
 exact bodyPost_ret (v:=.agg #[.bool n9,.slice a9 L9.length c9,.int .i64 Y]) (by simp[results,Tryz.results77,go_sem,D,F,y2]) rfl ⟨_,rfl,(uH J).put3 (uH V9).2.1 _ _ _,aD (uH V9).1 (Nat.le_refl _) _ _ _⟩
theorem yf(b:Nat)(p:Nat)(f:Nat)(D a1 m e X Y:Int)(w:World)(h1:0<p)(ae:IntKind.i64.wrap (f:Int)=D)
  (CF:∀h,Calls Tryz.prog 106 #[.int .u64 b] h fun r d=>r=.returned (.int .u64 f)∧h=d)
  (CP:∀h,Calls Tryz.prog 105 #[.int .u64 b] h fun r d=>r=.returned (.int .i64 p)∧h=d)
  (CN:∀h,Calls Tryz.prog 120 #[.int .u64 b] h fun r d=>r=.returned (.bool false)∧h=d)
  (CO:∀h,Calls Tryz.prog 89 #[.int .i64 D] h fun r d=>∃v,r=.returned v∧aE 2 h.heap.size d v D∧Below h.heap.size h d)
  (CV:∀h v,aE 2 0 h v m→Calls Tryz.prog 83 #[v,.int .i64 e] h fun r d=>∃u,r=.returned u∧aG d u X Y∧Below h.heap.size h d)
  (F:IntKind.u64.wrap ((f:Int)+4503599627370496)=a1) (G:IntKind.i64.wrap a1=m) (w3:IntKind.i64.wrap ((p:Int)-1075)=e)
  (C1:∀h,Calls Tryz.prog 89 #[.int .i64 m] h fun r d=>∃v,r=.returned v∧aE 2 h.heap.size d v m∧Below h.heap.size h d)
  :Calls Tryz.prog 77 #[.int .u64 b] w fun r h=>∃u,r=.returned u∧aG h u X Y∧Below w.heap.size w h:=by
 have aj:decide (0<p)=true:=decide_eq_true h1
 have KF:=aa CF;have KP:=aa CP;have KN:=aa CN;have KO:=aa CO;have KV:=aa CV
 clear CF CP CN CO CV
 have K1:=aa C1
 clear C1
 have H:Below w.heap.size w (w.alloc (.cells #[.bool false,.slice none 0 0,.int .i64 0] 47)):=(Below.refl _ _).alloc (Nat.le_refl _) _
 have B0:=aa H;have X2:=aa (az.new w (.bool false) (.slice none 0 0) (.int .i64 0))
 clear H
 go_enter Tryz.func77,Tryz.ntmps77
 go_wp2_with(go_at_call 106;refine(uH KF _).mono ?_;rintro r G ⟨rfl,rfl⟩)
 refine(uH KO _).mono ?_
 rintro r F ⟨v,rfl,hv,y⟩
 obtain⟨V,t,Z,M,rfl,i1⟩:=hv
 have b1:=(uH B0).trans (y.mono (uH B0).size)
 have I:rF w (F.alloc (.cells #[.bool V,.slice t M.length Z] 45)) F.heap.size V t M.length Z D:=
  ⟨b1.alloc b1.size _,((uH X2).all y).old _,aA.new _ _ _,by have:=y.size;simp at this;omega,(aE.zeroB ⟨V,t,Z,M,rfl,i1⟩).below ((Below.refl _ _).alloc (Nat.le_refl _) _)⟩
 have V1:=aa I
 clear b1 I y i1 B0 X2 KO
 go_upto_region 3 with(fail)
 refine au (fun W=>rF w W F.heap.size V t M.length Z D) (uH V1) ?_
 clear V1
 intro W1 I
 generalize F.heap.size=g at*
 generalize M.length=l1 at*
 have A:=aa I
 clear I
 go_wp2_with(first|(go_at_call 105;refine(uH KP _).mono ?_;rintro r G ⟨rfl,rfl⟩)|(go_at_call 106;refine(uH KF _).mono ?_;rintro r G ⟨rfl,rfl⟩))
 refine(uH K1 _).mono ?_
 rintro r w5 ⟨v,rfl,hv,N⟩
 have l:=(uH A).below N
 clear A N K1
 obtain⟨n5,a5,c5,L5,rfl,i5⟩:=hv
 have v6:=l.put (aE.zeroB ⟨n5,a5,c5,L5,rfl,i5⟩)
 have V6:=aa v6
 have K:=l.2.2.1.c0;have L:=l.2.2.1.c1;have Q:=l.2.2.1.free 0;have U:=l.2.2.1.free 1
 clear l v6 i5
 go_upto_region 5 with(fail)
 refine au (fun W=>rF w W g n5 a5 L5.length c5 m) (uH V6) ?_
 clear V6 K L Q U
 intro W5 l
 generalize L5.length=l5 at*
 have A:=aa l
 have K:=l.2.2.1.c0;have L:=l.2.2.1.c1;have Q:=l.2.2.1.free 0;have U:=l.2.2.1.free 1
 clear l
 go_wp2_with(first|(go_at_call 105;refine(uH KP _).mono ?_;rintro r G ⟨rfl,rfl⟩)|(go_at_call 120;refine(uH KN _).mono ?_;rintro r G ⟨rfl,rfl⟩))
 refine(uH KV _ _ (uH A).2.2.2.2).mono ?_
 rintro r w9 ⟨u,rfl,hu,O⟩
 have v9:=(uH A).below O
 have z:=v9.2.1
 have V9:=aa v9
 obtain⟨n9,a9,c9,L9,rfl,j9⟩:=hu
 have J:=aa (show aG w9 (.agg #[.bool n9,.slice a9 L9.length c9,.int .i64 Y]) X Y from⟨n9,a9,c9,L9,rfl,j9⟩)
 clear K L Q U
 have K:=z.c0;have L:=z.c1;have y2:=z.c2;have Q:=z.free 0;have U:=z.free 1;have f2:=z.free 2
 clear O v9 z A j9
 go_wp2
 exact bodyPost_ret (v:=.agg #[.bool n9,.slice a9 L9.length c9,.int .i64 Y]) (by simp[results,Tryz.results77,go_sem,K,L,y2]) rfl ⟨_,rfl,(uH J).put3 (uH V9).2.1 _ _ _,aD (uH V9).1 (Nat.le_refl _) _ _ _⟩
theorem yg(b:Nat)(p:Nat)(f:Nat)(I a1 m e X Y:Int)(w:World)(h1:0<p)(ak:IntKind.i64.wrap (f:Int)=I)
  (CF:∀l,Calls Tryz.prog 106 #[.int .u64 b] l fun r d=>r=.returned (.int .u64 f)∧l=d)
  (CP:∀l,Calls Tryz.prog 105 #[.int .u64 b] l fun r d=>r=.returned (.int .i64 p)∧l=d)
  (CN:∀l,Calls Tryz.prog 120 #[.int .u64 b] l fun r d=>r=.returned (.bool true)∧l=d)
  (CO:∀l,Calls Tryz.prog 89 #[.int .i64 I] l fun r d=>∃v,r=.returned v∧aE 2 l.heap.size d v I∧Below l.heap.size l d)
  (CV:∀l v,aE 2 0 l v (-m)→Calls Tryz.prog 83 #[v,.int .i64 e] l fun r d=>∃u,r=.returned u∧aG d u X Y∧Below l.heap.size l d)
  (K:IntKind.u64.wrap ((f:Int)+4503599627370496)=a1) (L:IntKind.i64.wrap a1=m) (w3:IntKind.i64.wrap ((p:Int)-1075)=e)
  (C1:∀l,Calls Tryz.prog 89 #[.int .i64 m] l fun r d=>∃v,r=.returned v∧aE 2 l.heap.size d v m∧Below l.heap.size l d)
  :Calls Tryz.prog 77 #[.int .u64 b] w fun r l=>∃u,r=.returned u∧aG l u X Y∧Below w.heap.size w l:=by
 have am:decide (0<p)=true:=decide_eq_true h1
 have KF:=aa CF;have KP:=aa CP;have KN:=aa CN;have KO:=aa CO;have KV:=aa CV
 clear CF CP CN CO CV
 have K1:=aa C1
 clear C1
 have M:Below w.heap.size w (w.alloc (.cells #[.bool false,.slice none 0 0,.int .i64 0] 47)):=(Below.refl _ _).alloc (Nat.le_refl _) _
 have B0:=aa M;have X2:=aa (az.new w (.bool false) (.slice none 0 0) (.int .i64 0))
 clear M
 go_enter Tryz.func77,Tryz.ntmps77
 go_wp2_with(go_at_call 106;refine(uH KF _).mono ?_;rintro r L ⟨rfl,rfl⟩)
 refine(uH KO _).mono ?_
 rintro r K ⟨v,rfl,V,D⟩
 obtain⟨n1,A,c1,U,rfl,i1⟩:=V
 have b1:=(uH B0).trans (D.mono (uH B0).size)
 have N:rF w (K.alloc (.cells #[.bool n1,.slice A U.length c1] 45)) K.heap.size n1 A U.length c1 I:=
  ⟨b1.alloc b1.size _,((uH X2).all D).old _,aA.new _ _ _,by have:=D.size;simp at this;omega,(aE.zeroB ⟨n1,A,c1,U,rfl,i1⟩).below ((Below.refl _ _).alloc (Nat.le_refl _) _)⟩
 have V1:=aa N
 clear b1 N D i1 B0 X2 KO
 go_upto_region 3 with(fail)
 refine au (fun W=>rF w W K.heap.size n1 A U.length c1 I) (uH V1) ?_
 clear V1
 intro W1 N
 generalize K.heap.size=g at*
 generalize U.length=l1 at*
 have t:=aa N
 clear N
 go_wp2_with(first|(go_at_call 105;refine(uH KP _).mono ?_;rintro r L ⟨rfl,rfl⟩)|(go_at_call 106;refine(uH KF _).mono ?_;rintro r L ⟨rfl,rfl⟩))
 refine(uH K1 _).mono ?_
 rintro r w5 ⟨v,rfl,V,Z⟩
 have h:=(uH t).below Z
 clear t Z K1
 obtain⟨n5,a5,c5,L5,rfl,i5⟩:=V
 have O:=h.put (aE.zeroB ⟨n5,a5,c5,L5,rfl,i5⟩)
 have Q:=aa O
 have y:=h.2.2.1.c0;have z:=h.2.2.1.c1;have F:=h.2.2.1.free 0;have G:=h.2.2.1.free 1
 clear h O i5
 go_upto_region 5 with(fail)
 refine au (fun W=>rF w W g n5 a5 L5.length c5 m) (uH Q) ?_
 clear Q y z F G
 intro W5 h
 generalize L5.length=l5 at*
 have t:=aa h
 have y:=h.2.2.1.c0;have z:=h.2.2.1.c1;have F:=h.2.2.1.free 0;have G:=h.2.2.1.free 1
 clear h
 go_wp2_with(first|(go_at_call 105;refine(uH KP _).mono ?_;rintro r L ⟨rfl,rfl⟩)|(go_at_call 120;refine(uH KN _).mono ?_;rintro r L ⟨rfl,rfl⟩))
 refine(nm (uH t).2.2.2.2 (by decide)).mono ?_
 rintro r w7 ⟨v,rfl,V,ae⟩
 have h:=(uH t).below ae
 clear t ae y z F G
 obtain⟨n7,a7,c7,L7,rfl,i7⟩:=V
 have O:=h.put ⟨n7,a7,c7,L7,rfl,i7⟩
 have Q:=aa O
 have y:=h.2.2.1.c0;have z:=h.2.2.1.c1;have F:=h.2.2.1.free 0;have G:=h.2.2.1.free 1
 clear h O i7
 go_upto_region 8 with(fail)
 refine au (fun W=>rF w W g n7 a7 L7.length c7 _) (uH Q) ?_
 clear Q y z F G
 intro W7 h
 generalize L7.length=l7 at*
 have t:=aa h
 have y:=h.2.2.1.c0;have z:=h.2.2.1.c1;have F:=h.2.2.1.free 0;have G:=h.2.2.1.free 1
 clear h
 go_wp2_with fail
 refine(uH KV _ _ (uH t).2.2.2.2).mono ?_
 rintro r w9 ⟨u,rfl,hu,aj⟩
 have v9:=(uH t).below aj
 have H:=v9.2.1
 have V9:=aa v9
 obtain⟨n9,a9,c9,L9,rfl,j9⟩:=hu
 have J:=aa (show aG w9 (.agg #[.bool n9,.slice a9 L9.length c9,.int .i64 Y]) X Y from⟨n9,a9,c9,L9,rfl,j9⟩)
 clear y z F G
 have y:=H.c0;have z:=H.c1;have y2:=H.c2;have F:=H.free 0;have G:=H.free 1;have f2:=H.free 2
 clear aj v9 H t j9
 go_wp2
 exact bodyPost_ret (v:=.agg #[.bool n9,.slice a9 L9.length c9,.int .i64 Y]) (by simp[results,Tryz.results77,go_sem,y,z,y2]) rfl ⟨_,rfl,(uH J).put3 (uH V9).2.1 _ _ _,aD (uH V9).1 (Nat.le_refl _) _ _ _⟩
theorem j6(b:Nat)(w:World)(h:b<18446744073709551616):
  Calls Tryz.prog 77 #[.int .u64 b] w fun r d=>∃u,r=.returned u∧aG d u (fD b) (fX b)∧Below w.heap.size w d:=by
 have G:=fun d=>ps b d h
 have A:=fun d=>j3 b d h
 have l:=fun d=>fY b d h
 have N:=rM b
 have O:=mQ b
 have Q:=Ay b
 have H:fD b=oM (fM b):=rfl
 have I:fX b=oE (fM b) (fE b):=rfl
 have m:fM b=sg (fS b) (fA b):=rfl
 rw[H,I]
 by_cases D:fP b=0
 ·have t:fE b= -1074:=by unfold fE;rw[if_pos D]
  have y:fA b=fF b:=by unfold fA;rw[if_pos D]
  rw[D]at A
  have F:IntKind.i64.wrap (fF b:Int)=(fF b:Int):=by simp only[IntKind.wrap_i64];omega
  cases hs:fS b with
  |false=>
   rw[hs]at l m
   have z:(fF b:Int)=fM b:=by rw[m,y];rfl
   exact yb b (fF b) (fF b:Int) (fM b) (fE b) _ _ w F G A l (fun d=>f7 _ d (by omega) (by omega)) (fun d v f=>ic (fE b) f (by decide) (by omega)) t z
  |true=>
   rw[hs]at l m
   have z:(fF b:Int)= -fM b:=by rw[m,y];simp[sg]
   refine ye b (fF b) (fF b:Int) (fF b:Int) (fE b) _ _ w F G A l (fun d=>f7 _ d (by omega) (by omega)) (fun d v f=>?_) t rfl
   have:-(fF b:Int)=fM b:=by omega
   rw[this]at f
   exact ic (fE b) f (by decide) (by omega)
 ·have t:fE b=(fP b:Int)-1075:=by unfold fE;rw[if_neg D]
  have y:fA b=fF b+4503599627370496:=by unfold fA;rw[if_neg D]
  have F:IntKind.i64.wrap (fF b:Int)=(fF b:Int):=by simp only[IntKind.wrap_i64];omega
  have K:IntKind.u64.wrap ((fF b:Int)+4503599627370496)=(fA b:Int):=by simp only[IntKind.wrap_u64];omega
  have L:IntKind.i64.wrap (fA b:Int)=(fA b:Int):=by simp only[IntKind.wrap_i64];omega
  have M:IntKind.i64.wrap ((fP b:Int)-1075)=fE b:=by simp only[IntKind.wrap_i64];omega
  have U:=Gj b
  cases hs:fS b with
  |false=>
   rw[hs]at l m
   have z:(fA b:Int)=fM b:=by rw[m];rfl
   refine yf b (fP b) (fF b) (fF b:Int) (fA b:Int) (fA b:Int) (fE b) _ _ w (by omega) F G A l (fun d=>f7 _ d (by omega) (by omega)) (fun d v f=>?_) K L M (fun d=>f7 _ d (by omega) (by omega))
   rw[z]at f
   exact ic (fE b) f (by decide) (by omega)
  |true=>
   rw[hs]at l m
   have z:-(fA b:Int)=fM b:=by rw[m];simp[sg]
   refine yg b (fP b) (fF b) (fF b:Int) (fA b:Int) (fA b:Int) (fE b) _ _ w (by omega) F G A l (fun d=>f7 _ d (by omega) (by omega)) (fun d v f=>?_) K L M (fun d=>f7 _ d (by omega) (by omega))
   rw[z]at f
   exact ic (fE b) f (by decide) (by omega)
theorem iN{L:List Nat}{n:Bool}(f:bf L)(h:av n L=true):dD L=(bl (an L):Int):=by
 rw[ie]
 by_cases d:L= []
 ·subst d;rfl
 ·obtain⟨l,m,t⟩:=ig L f (ay h).2.1 d
  rw[pq l m t]
theorem jE{B:Nat}{w:World}{v:Value}{z:Int}(t:aw B w v z)(y:-9223372036854775808≤z∧z≤9223372036854775807):
  Calls Tryz.prog 267 #[v] w fun e D=>e=.returned (.tuple #[.int .i64 z,.int .i64 0])∧Below w.heap.size w D:=by
 obtain⟨d,ao,H,A,rfl,I,f,m,_⟩:=t.right (qC (k:=64) (by have:(2:Nat)^64=18446744073709551616:=(by decide);omega) (by decide))
 have h:=pB d ao H A w I (by have:=(ay f).1;omega)
 have l:iH (af d A)=true:=by unfold iH;rw[m];exact decide_eq_true y
 have F:rE d A=z:=by unfold rE;rw[f,l];simpa using m
 have G:rD d A=0:=by unfold rD;rw[f,l];rfl
 rw[F,G]at h
 exact h
theorem yh(n:Nat)(h:n<1152921504606846976):bits .and .i64 (n:Int) 1=((n%2:Nat):Int):=by
 have d:=Go.bits_nat .i64 62 (by decide) (fun x l d=>by rw[IntKind.wrap_i64];simp at d;omega) n 1 (by simp;omega) (by decide)
 have f:=d.1
 refine f.trans ?_
 rw[Nat.and_one_is_mod]
theorem yi(n:Nat)(h:n<1152921504606846976):bits .and .i64 (n:Int) 2=((2*(n/2%2):Nat):Int):=by
 have d:=Go.bits_nat .i64 62 (by decide) (fun x t d=>by rw[IntKind.wrap_i64];simp at d;omega) n 2 (by simp;omega) (by decide)
 have l:=d.1
 refine l.trans ?_
 have m:(n&&& 2)%2=0:=by
  have:=Nat.and_mod_two_pow (a:=n) (b:=2) (n:=1)
  simpa using this
 have f:(n&&& 2)/2=(n/2)&&& 1:=by
  have:=Nat.and_div_two_pow (a:=n) (b:=2) (n:=1)
  simpa using this
 rw[Nat.and_one_is_mod]at f
 have:=Nat.div_add_mod (n&&& 2) 2
 rw[m,f]at this
 congr 1
 omega
theorem yj(D:Bool)(ao:Option Addr)(h l N:Nat)(E d:Int)(q:Bool)(w:World)(hE:-20000≤E∧E≤20000)(hL:-20000≤d∧d≤20000)(ae:(0:Int)≤N)(hN:(N:Int)<1152921504606846976)
  (V:∀m,Below w.heap.size w m→Calls Tryz.prog 252 #[.agg #[.bool false,.slice ao l h],.int .i64 (E-d+1)] m fun e z=>∃v,e=.returned (.tuple #[v,.int .i64 0])∧aw m.heap.size z v N∧Below m.heap.size m z)
  (p1:bits .and .i64 (N:Int) 1=0) (t1:(E==d-1)=q):
  Calls Tryz.prog 255 #[.agg #[.bool D,.slice ao l h,.int .i64 E],.int .i64 d] w fun e m=>e=.returned (.int .u64 ((N/2:Nat):Int))∧Below w.heap.size w m:=by
 have X:=aa V
 clear V
 obtain⟨r1,r2⟩:=hE
 obtain⟨r3,r4⟩:=hL
 have A:Below w.heap.size w ((w.alloc (.cells #[.bool D,.slice ao l h,.int .i64 E] 47)).alloc (.cells #[.bool false,.slice ao l h] 45)):=((Below.refl _ _).alloc (Nat.le_refl _) _).alloc (by simp) _
 have F:=aa A
 have Y:=aa (show az ((w.alloc (.cells #[.bool D,.slice ao l h,.int .i64 E] 47)).alloc (.cells #[.bool false,.slice ao l h] 45)) w.heap.size (.bool D) (.slice ao l h) (.int .i64 E)from(az.new _ _ _ _).old _)
 clear A
 go_enter Tryz.func255,Tryz.ntmps255
 go_wp2_with fail
 refine(uH X _ (uH F)).mono ?_
 rintro e K ⟨v,rfl,hv,t⟩
 have L:=(uH F).trans (t.mono (uH F).size)
 have Z:=(uH Y).all t
 obtain⟨O,Q,U,H,rfl,I⟩:=hv
 have f:Below K.heap.size K (K.alloc (.cells #[.bool O,.slice Q H.length U] 45)):=(Below.refl _ _).alloc (Nat.le_refl _) _
 have HV:=aa ((show aw 0 K (.agg #[.bool O,.slice Q H.length U]) N from⟨O,Q,U,H,rfl,I.1,bN.zero I.1,I.2.2⟩).below f)
 have M:=aa (L.trans (f.mono L.size))
 have X2:=aa (Z.all f)
 clear t L Z I f F Y X
 generalize H.length=l1 at*
 go_wp2_with fail
 refine(jE (uH HV) (by omega)).mono ?_
 rintro e w3 ⟨rfl,y⟩
 have G:=(uH X2).all y
 have B3:=aa ((uH M).trans (y.mono (uH M).size))
 have y0:=G.c0;have y1:=G.c1;have y2:=G.c2
 clear y G X2 M HV
 go_wp2
 go_ret
 exact⟨rfl,uH B3⟩
theorem yk(D:Bool)(ao:Option Addr)(h l N:Nat)(E d:Int)(w:World)(hE:-20000≤E∧E≤20000)(hL:-20000≤d∧d≤20000)(ae:(0:Int)≤N)(hN:(N:Int)<1152921504606846976)
  (V:∀m,Below w.heap.size w m→Calls Tryz.prog 252 #[.agg #[.bool false,.slice ao l h],.int .i64 (E-d+1)] m fun e z=>∃v,e=.returned (.tuple #[v,.int .i64 0])∧aw m.heap.size z v N∧Below m.heap.size m z)
  (p1:bits .and .i64 (N:Int) 1=1) (t1:(E==d-1)=false):
  Calls Tryz.prog 255 #[.agg #[.bool D,.slice ao l h,.int .i64 E],.int .i64 d] w fun e m=>e=.returned (.int .u64 (((N+1)/2:Nat):Int))∧Below w.heap.size w m:=by
 have X:=aa V
 clear V
 obtain⟨r1,r2⟩:=hE
 obtain⟨r3,r4⟩:=hL
 have A:Below w.heap.size w ((w.alloc (.cells #[.bool D,.slice ao l h,.int .i64 E] 47)).alloc (.cells #[.bool false,.slice ao l h] 45)):=((Below.refl _ _).alloc (Nat.le_refl _) _).alloc (by simp) _
 have F:=aa A
 have Y:=aa (show az ((w.alloc (.cells #[.bool D,.slice ao l h,.int .i64 E] 47)).alloc (.cells #[.bool false,.slice ao l h] 45)) w.heap.size (.bool D) (.slice ao l h) (.int .i64 E)from(az.new _ _ _ _).old _)
 clear A
 go_enter Tryz.func255,Tryz.ntmps255
 go_wp2_with fail
 refine(uH X _ (uH F)).mono ?_
 rintro e K ⟨v,rfl,hv,t⟩
 have L:=(uH F).trans (t.mono (uH F).size)
 have Z:=(uH Y).all t
 obtain⟨O,Q,U,H,rfl,I⟩:=hv
 have f:Below K.heap.size K (K.alloc (.cells #[.bool O,.slice Q H.length U] 45)):=(Below.refl _ _).alloc (Nat.le_refl _) _
 have HV:=aa ((show aw 0 K (.agg #[.bool O,.slice Q H.length U]) N from⟨O,Q,U,H,rfl,I.1,bN.zero I.1,I.2.2⟩).below f)
 have M:=aa (L.trans (f.mono L.size))
 have X2:=aa (Z.all f)
 clear t L Z I f F Y X
 generalize H.length=l1 at*
 go_wp2_with fail
 refine(jE (uH HV) (by omega)).mono ?_
 rintro e w3 ⟨rfl,y⟩
 have G:=(uH X2).all y
 have B3:=aa ((uH M).trans (y.mono (uH M).size))
 have y0:=G.c0;have y1:=G.c1;have y2:=G.c2
 clear y G X2 M HV
 go_wp2
 go_ret
 exact⟨rfl,uH B3⟩
theorem yl(D:Bool)(ao:Option Addr)(h l N:Nat)(E d:Int)(w:World)(hE:-20000≤E∧E≤20000)(hL:-20000≤d∧d≤20000)(ae:(0:Int)≤N)(hN:(N:Int)<1152921504606846976)
  (V:∀m,Below w.heap.size w m→Calls Tryz.prog 252 #[.agg #[.bool false,.slice ao l h],.int .i64 (E-d+1)] m fun e z=>∃v,e=.returned (.tuple #[v,.int .i64 0])∧aw m.heap.size z v N∧Below m.heap.size m z)
  (p1:bits .and .i64 (N:Int) 1=1) (t1:(E==d-1)=true) (p2:bits .and .i64 (N:Int) 2=2):
  Calls Tryz.prog 255 #[.agg #[.bool D,.slice ao l h,.int .i64 E],.int .i64 d] w fun e m=>e=.returned (.int .u64 (((N+1)/2:Nat):Int))∧Below w.heap.size w m:=by
 have X:=aa V
 clear V
 obtain⟨r1,r2⟩:=hE
 obtain⟨r3,r4⟩:=hL
 have A:Below w.heap.size w ((w.alloc (.cells #[.bool D,.slice ao l h,.int .i64 E] 47)).alloc (.cells #[.bool false,.slice ao l h] 45)):=((Below.refl _ _).alloc (Nat.le_refl _) _).alloc (by simp) _
 have F:=aa A
 have Y:=aa (show az ((w.alloc (.cells #[.bool D,.slice ao l h,.int .i64 E] 47)).alloc (.cells #[.bool false,.slice ao l h] 45)) w.heap.size (.bool D) (.slice ao l h) (.int .i64 E)from(az.new _ _ _ _).old _)
 clear A
 go_enter Tryz.func255,Tryz.ntmps255
 go_wp2_with fail
 refine(uH X _ (uH F)).mono ?_
 rintro e K ⟨v,rfl,hv,t⟩
 have L:=(uH F).trans (t.mono (uH F).size)
 have Z:=(uH Y).all t
 obtain⟨O,Q,U,H,rfl,I⟩:=hv
 have f:Below K.heap.size K (K.alloc (.cells #[.bool O,.slice Q H.length U] 45)):=(Below.refl _ _).alloc (Nat.le_refl _) _
 have HV:=aa ((show aw 0 K (.agg #[.bool O,.slice Q H.length U]) N from⟨O,Q,U,H,rfl,I.1,bN.zero I.1,I.2.2⟩).below f)
 have M:=aa (L.trans (f.mono L.size))
 have X2:=aa (Z.all f)
 clear t L Z I f F Y X
 generalize H.length=l1 at*
 go_wp2_with fail
 refine(jE (uH HV) (by omega)).mono ?_
 rintro e w3 ⟨rfl,y⟩
 have G:=(uH X2).all y
 have B3:=aa ((uH M).trans (y.mono (uH M).size))
 have y0:=G.c0;have y1:=G.c1;have y2:=G.c2
 clear y G X2 M HV
 go_wp2
 go_ret
 exact⟨rfl,uH B3⟩
theorem ym(D:Bool)(ao:Option Addr)(h l N:Nat)(E d:Int)(w:World)(hE:-20000≤E∧E≤20000)(hL:-20000≤d∧d≤20000)(ae:(0:Int)≤N)(hN:(N:Int)<1152921504606846976)
  (V:∀m,Below w.heap.size w m→Calls Tryz.prog 252 #[.agg #[.bool false,.slice ao l h],.int .i64 (E-d+1)] m fun e z=>∃v,e=.returned (.tuple #[v,.int .i64 0])∧aw m.heap.size z v N∧Below m.heap.size m z)
  (p1:bits .and .i64 (N:Int) 1=1) (t1:(E==d-1)=true) (p2:bits .and .i64 (N:Int) 2=0):
  Calls Tryz.prog 255 #[.agg #[.bool D,.slice ao l h,.int .i64 E],.int .i64 d] w fun e m=>e=.returned (.int .u64 ((N/2:Nat):Int))∧Below w.heap.size w m:=by
 have X:=aa V
 clear V
 obtain⟨r1,r2⟩:=hE
 obtain⟨r3,r4⟩:=hL
 have A:Below w.heap.size w ((w.alloc (.cells #[.bool D,.slice ao l h,.int .i64 E] 47)).alloc (.cells #[.bool false,.slice ao l h] 45)):=((Below.refl _ _).alloc (Nat.le_refl _) _).alloc (by simp) _
 have F:=aa A
 have Y:=aa (show az ((w.alloc (.cells #[.bool D,.slice ao l h,.int .i64 E] 47)).alloc (.cells #[.bool false,.slice ao l h] 45)) w.heap.size (.bool D) (.slice ao l h) (.int .i64 E)from(az.new _ _ _ _).old _)
 clear A
 go_enter Tryz.func255,Tryz.ntmps255
 go_wp2_with fail
 refine(uH X _ (uH F)).mono ?_
 rintro e K ⟨v,rfl,hv,t⟩
 have L:=(uH F).trans (t.mono (uH F).size)
 have Z:=(uH Y).all t
 obtain⟨O,Q,U,H,rfl,I⟩:=hv
 have f:Below K.heap.size K (K.alloc (.cells #[.bool O,.slice Q H.length U] 45)):=(Below.refl _ _).alloc (Nat.le_refl _) _
 have HV:=aa ((show aw 0 K (.agg #[.bool O,.slice Q H.length U]) N from⟨O,Q,U,H,rfl,I.1,bN.zero I.1,I.2.2⟩).below f)
 have M:=aa (L.trans (f.mono L.size))
 have X2:=aa (Z.all f)
 clear t L Z I f F Y X
 generalize H.length=l1 at*
 go_wp2_with fail
 refine(jE (uH HV) (by omega)).mono ?_
 rintro e w3 ⟨rfl,y⟩
 have G:=(uH X2).all y
 have B3:=aa ((uH M).trans (y.mono (uH M).size))
 have y0:=G.c0;have y1:=G.c1;have y2:=G.c2
 clear y G X2 M HV
 go_wp2
 go_ret
 exact⟨rfl,uH B3⟩
theorem EG{n:Bool}{L:List Nat}{e:Int}(h:kn n L e=true)(d:L≠ []):an L%2=1:=by
 unfold kn at h
 have l:L.length≠0:=fun f=>d (List.length_eq_zero_iff.1 f)
 rw[if_neg l]at h
 simp only[Bool.and_eq_true,decide_eq_true_eq]at h
 exact h.2.1
theorem uQ{n:Bool}{L:List Nat}(h:av n L=true):av false L=true:=by
 unfold av at*
 revert h
 cases n<;>simp
 intro d l f
 exact⟨d,f⟩
theorem AK{l:Bool}{A:List Nat}(j:Int)(m:av l A=true)(t:-16384≤j+1∧j+1≤16384)(y:pN (an A) j<1152921504606846976):
  uw false A (j+1)=0∧rU false A (j+1)=(pN (an A) j:Int):=by
 have d:lg false A (j+1)=true:=by unfold lg;rw[uQ m,decide_eq_true t];rfl
 have f:oR false A (j+1)=(pN (an A) j:Int):=by unfold oR pN sg;rfl
 have h:(oR false A (j+1)).natAbs<dy:=by
  rw[f]
  exact qC (k:=60) (by have:(2:Nat)^60=1152921504606846976:=(by decide);omega) (by decide)
 unfold uw rU
 rw[if_pos d,if_pos d,fj _ h,fk _ h,f]
 exact⟨rfl,rfl⟩
theorem si(m:Bool)(ao:Option Addr)(l:Nat)(A:List Nat)(E d:Int)(w:World)(X:ag w ao l A)(U:kn m A E=true)(Y:A≠ [])(hL:-2000≤d∧d≤2000)(Z:-16384≤E-d+1∧E-d+1≤16384)(H:pN (an A) (E-d)<1152921504606846976):
  Calls Tryz.prog 255 #[.agg #[.bool m,.slice ao A.length l,.int .i64 E],.int .i64 d] w fun e f=>e=.returned (.int .u64 (mS (an A) (E-d):Nat))∧Below w.heap.size w f:=by
 obtain⟨d1,d2,d3,d4,d5⟩:=bT U
 have ho:=EG U Y
 obtain⟨s1,s2⟩:=AK (E-d) d1 Z H
 have z:∀f,Below w.heap.size w f→Calls Tryz.prog 252 #[.agg #[.bool false,.slice ao A.length l],.int .i64 (E-d+1)] f fun e y=>∃v,e=.returned (.tuple #[v,.int .i64 0])∧aw f.heap.size y v (pN (an A) (E-d))∧Below f.heap.size f y:=by
  intro f hb
  have:=ia false ao l A (E-d+1) f (X.below hb) (by omega) (by omega)
  rw[s1,s2]at this
  exact this
 have t:=yh _ H
 have D:=yi _ H
 rw[←IW _ _ ho]
 have I:pM (an A) (E-d)=(pN (an A) (E-d)+(IL (an A) (E-d)).toNat)/2:=rfl
 have K:IL (an A) (E-d)=(decide (pN (an A) (E-d)%2=1)&&(!decide (E-d= -1)||decide (pN (an A) (E-d)/2%2=1))):=rfl
 rw[I,K]
 generalize pN (an A) (E-d)=N at*
 have F:-20000≤E∧E≤20000:=by omega
 have h:-20000≤d∧d≤20000:=by omega
 by_cases L:N%2=1
 ·rw[L]at t
  rw[decide_eq_true L]
  by_cases V:E-d= -1
  ·have G:(E==d-1)=true:=by simp;omega
   rw[decide_eq_true V]
   by_cases M:N/2%2=1
   ·rw[M]at D
    rw[decide_eq_true M]
    exact yl m ao l A.length N E d w F h (by omega) (by omega) z t G D
   ·have O:N/2%2=0:=by omega
    rw[O]at D
    rw[decide_eq_false M]
    exact ym m ao l A.length N E d w F h (by omega) (by omega) z t G D
  ·have G:(E==d-1)=false:=by simp;omega
   rw[decide_eq_false V]
   exact yk m ao l A.length N E d w F h (by omega) (by omega) z t G
 ·have Q:N%2=0:=by omega
  rw[Q]at t
  rw[decide_eq_false L]
  exact yj m ao l A.length N E d _ w F h (by omega) (by omega) z t rfl
end Go.Proofs.YtlnphkioddknfaaGreatDoor
