/- Part 16 of the texts. -/
import Derived.Test.YtnnfjeieennffaaGreatDoorPartc15
import Derived.Deep.Cut
set_option maxHeartbeats 4000000
namespace Go.Proofs.YtnnfjeieennffaaGreatDoor
open Go.RowKit
def fD(b:Nat):Int:=oM (fM b)
def fX(b:Nat):Int:=oE (fM b) (fE b)
theorem IP(b:Nat)(h:fM b≠0):tz (fM b).natAbs<53:=lY _ _ (by omega) (by rw[zv];exact sn b)
theorem IQ(b:Nat):cR (fM b) (fE b)=0∧dM (fM b) (fE b)=fD b∧dX (fM b) (fE b)=fX b:=by
 have h:=Ac b
 have d:k9 (fM b) (fE b)=true:=by
  unfold k9
  rw[decide_eq_true (by omega)]
  by_cases f:fM b=0
  ·rw[decide_eq_true f];rfl
  ·have:=IP b f
   rw[decide_eq_true (p:=-16384≤_∧_) (by omega)]
   simp
 unfold cR dM dX
 rw[if_pos d,if_pos d,if_pos d]
 exact⟨rfl,rfl,rfl⟩
theorem GB(b:Nat):(fM b).natAbs<dE:=qD (k:=53) (by rw[zv];exact sn b) (by decide)
theorem GD(b:Nat)(w:World)(h:b<18446744073709551616)(z:ap b=false):
  Calls Tryz.prog 156 #[.int .u64 b] w fun r w'=>mu w' r 7 0 0∧Below w.heap.size w w':=by
 have m:=aa (fun w'=>d7 b w' h)
 rw[z]at m
 clear z h
 have l:Below w.heap.size w (w.alloc (.cells #[.bool false,.slice none 0 0,.int .i64 0] 52)):=(Below.refl _ _).alloc (Nat.le_refl _) _
 have t:=aa l;have A:=aa (aB.new w (.bool false) (.slice none 0 0) (.int .i64 0))
 clear l
 go_enter Tryz.func156,Tryz.ntmps156
 go_wp2_with fail
 refine(uH m _).mono ?_
 rintro r N ⟨rfl,f⟩
 have d:=(uH A).all f
 have D:=aa ((uH t).trans (f.mono (uH t).size))
 have F:=d.c0;have G:=d.c1;have H:=d.c2;have K:=d.free 0;have L:=d.free 1;have M:=d.free 2
 clear f d A t m
 go_wp2
 exact bodyPost_ret (v:=.tuple #[.agg #[.bool false,.slice none 0 0,.int .i64 0],.int .i64 7]) (by simp[results,Tryz.results156,go_sem,F,G,H]) rfl ⟨⟨_,rfl,aG.zero _ _ _⟩,aD (uH D) (Nat.le_refl _) _ _ _⟩
theorem dl(b:Nat)(w:World)(h:b<18446744073709551616)(hf:ap b=true)(hT:cC w):
  Calls Tryz.prog 156 #[.int .u64 b] w fun r w'=>mu w' r 0 (fD b) (fX b)∧Below w.heap.size w w':=by
 have K:=aa (fun w'=>d7 b w' h)
 rw[hf]at K
 have CS:=aa (fun w'=>eU b w' h)
 have CP:=aa (fun w'=>xK b w')
 have CO:=aa (fun w'=>uC (fM b) w' (by have:=sn b;omega) (by have:=sn b;omega))
 obtain⟨k1,k2,k3⟩:=IQ b
 have L:=aa (fun w' v B (H:au B w' v (fM b)) (t:cC w')=>iU (fE b) H (GB b) (by have:=Ac b;omega) t)
 rw[k1,k2,k3]at L
 clear k1 k2 k3
 unfold fV at*
 generalize fM b=m at*
 generalize fE b=e at*
 generalize fD b=M at*
 generalize fX b=X at*
 generalize fS b=s at*
 generalize fP b=p at*
 generalize fF b=f at*
 clear hf h
 have G:Below w.heap.size w (w.alloc (.cells #[.bool false,.slice none 0 0,.int .i64 0] 52)):=(Below.refl _ _).alloc (Nat.le_refl _) _
 have N:=aa G;have X2:=aa (aB.new w (.bool false) (.slice none 0 0) (.int .i64 0))
 clear G
 go_enter Tryz.func156,Tryz.ntmps156
 go_wp2_with fail
 refine(uH K _).mono ?_
 rintro r w1 ⟨rfl,l⟩
 have X3:=aa ((uH X2).all l)
 have O:=aa ((uH N).trans (l.mono (uH N).size))
 clear l X2 N K
 go_wp2_with fail
 refine(uH CS _).mono ?_
 rintro r w2 ⟨rfl,z⟩
 have X4:=aa ((uH X3).all z)
 have Q:=aa ((uH O).trans (z.mono (uH O).size))
 clear z X3 O CS
 go_wp2_with fail
 refine(uH CP _).mono ?_
 rintro r w3 ⟨rfl,A⟩
 have X5:=aa ((uH X4).all A)
 have U:=aa ((uH Q).trans (A.mono (uH Q).size))
 clear A X4 Q CP
 go_wp2_with fail
 refine(uH CO _).mono ?_
 rintro r w4 ⟨v,rfl,H,D⟩
 have X6:=aa ((uH X5).all D)
 have V:=(uH U).trans (D.mono (uH U).size)
 have Y:=aa V
 have HT:=aa (hT.all V)
 have HV:=aa H
 clear D X5 U CO V H
 go_wp2_with fail
 refine(uH L _ _ _ (uH HV) (uH HT)).mono ?_
 rintro r w5 ⟨u,rfl,hu,F⟩
 have d:=(uH X6).all F
 have X7:=aa d
 have B5:=aa ((uH Y).trans (F.mono (uH Y).size))
 obtain⟨Z,a2,c2,L2,rfl,j2⟩:=hu
 have J:=aa (show aG w5 (.agg #[.bool Z,.slice a2 L2.length c2,.int .i64 X]) M X from⟨Z,a2,c2,L2,rfl,j2⟩)
 have y0:=d.c0;have y1:=d.c1;have y2:=d.c2;have f0:=d.free 0;have f1:=d.free 1;have f2:=d.free 2
 clear F d X6 Y L j2
 go_wp2
 exact bodyPost_ret (v:=.tuple #[.agg #[.bool Z,.slice a2 L2.length c2,.int .i64 X],.int .i64 0]) (by simp[results,Tryz.results156,go_sem,y0,y1,y2]) rfl ⟨⟨_,rfl,(uH J).put3 (uH X7) _ _ _⟩,aD (uH B5) (Nat.le_refl _) _ _ _⟩
theorem nH{M B:Nat}{w:World}{v:Value}{z:Int}(f:aE M B w v z)(D:M≤1000000):
  Calls Tryz.prog 105 #[v] w fun e w'=>∃u,e=.returned u∧aE M 0 w' u (-z)∧Below w.heap.size w w':=by
 obtain⟨n,a,c,L,rfl,h,F,G,l,m,t⟩:=f
 refine(ni n a c L w h (by omega)).mono ?_
 rintro e w' ⟨u,rfl,d,A⟩
 rw[jP l m]at d
 exact⟨u,rfl,d.more t,A⟩
def rG(w W:World)(g:Nat)(n:Bool)(a:Option Addr)(l c:Nat)(z:Int):Prop:=
 Below w.heap.size w W∧aB W w.heap.size (.bool false) (.slice none 0 0) (.int .i64 0)∧aC W g (.bool n) (.slice a l c)∧w.heap.size<g∧aE 2 0 W (.agg #[.bool n,.slice a l c]) z
theorem aE.zeroB{M B:Nat}{w:World}{v:Value}{x:Int}(h:aE M B w v x):aE M 0 w v x:=by
 obtain⟨neg,l,d,L,m,f,z,t⟩:=h
 exact⟨neg,l,d,L,m,f,bG.zero f,t⟩
theorem aE.box{M B:Nat}{w:World}{v:Value}{x:Int}(h:aE M B w v x){g:Nat}{y:Bool}{a:Option Addr}{n c:Nat}(f:aC w g (.bool y) (.slice a n c))(u u':Value):aE M B ((w.setCell ⟨g,0,none⟩ u).setCell ⟨g,1,none⟩ u') v x:=by
 obtain⟨neg,l,d,L,m,t,z⟩:=h
 exact⟨neg,l,d,L,m,t.box f u u',z⟩
theorem rG.below{w W f:World}{g:Nat}{n:Bool}{a:Option Addr}{l c:Nat}{z:Int}(h:rG w W g n a l c z)(d:Below W.heap.size W f):rG w f g n a l c z:=
 ⟨h.1.trans (d.mono h.1.size),h.2.1.all d,h.2.2.1.all d,h.2.2.2.1,h.2.2.2.2.below d⟩
theorem rG.put{w W:World}{g:Nat}{n d:Bool}{a f:Option Addr}{l c m t:Nat}{z A:Int}(h:rG w W g n a l c z)(F:aE 2 0 W (.agg #[.bool d,.slice f m t]) A):
  rG w ((W.setCell ⟨g,0,none⟩ (.bool d)).setCell ⟨g,1,none⟩ (.slice f m t)) g d f m t A:=by
 obtain⟨G,H,D,K,L⟩:=h
 exact⟨bQ G (by omega) _ _,(H.other (by simp;omega) _).other (by simp;omega) _,D.put _ _,K,F.box D _ _⟩
theorem xO(b:Nat)(f:Nat)(A m e X Y:Int)(w:World)(ae:IntKind.i64.wrap (f:Int)=A)
  (CF:∀w',Calls Tryz.prog 103 #[.int .u64 b] w' fun r d=>r=.returned (.int .u64 f)∧w'=d)
  (CP:∀w',Calls Tryz.prog 104 #[.int .u64 b] w' fun r d=>r=.returned (.int .i64 0)∧w'=d)
  (CN:∀w',Calls Tryz.prog 81 #[.int .u64 b] w' fun r d=>r=.returned (.bool false)∧w'=d)
  (CO:∀w',Calls Tryz.prog 102 #[.int .i64 A] w' fun r d=>∃v,r=.returned v∧aE 2 w'.heap.size d v A∧Below w'.heap.size w' d)
  (CV:∀w' v,aE 2 0 w' v m→Calls Tryz.prog 55 #[v,.int .i64 e] w' fun r d=>∃u,r=.returned u∧aG d u X Y∧Below w'.heap.size w' d)
  (he:e= -1074) (hm:A=m)
  :Calls Tryz.prog 58 #[.int .u64 b] w fun r w'=>∃u,r=.returned u∧aG w' u X Y∧Below w.heap.size w w':=by
 subst he hm
 have KF:=aa CF;have KP:=aa CP;have KN:=aa CN;have KO:=aa CO;have KV:=aa CV
 clear CF CP CN CO CV
 have D:Below w.heap.size w (w.alloc (.cells #[.bool false,.slice none 0 0,.int .i64 0] 52)):=(Below.refl _ _).alloc (Nat.le_refl _) _
 have M:=aa D;have X2:=aa (aB.new w (.bool false) (.slice none 0 0) (.int .i64 0))
 clear D
 go_enter Tryz.func58,Tryz.ntmps58
 go_wp2_with(go_at_call 103;refine(uH KF _).mono ?_;rintro r w2 ⟨rfl,rfl⟩)
 refine(uH KO _).mono ?_
 rintro r L ⟨v,rfl,hv,t⟩
 obtain⟨H,l,K,F,rfl,i1⟩:=hv
 have N:=(uH M).trans (t.mono (uH M).size)
 have h:rG w (L.alloc (.cells #[.bool H,.slice l F.length K] 50)) L.heap.size H l F.length K A:=
  ⟨N.alloc N.size _,((uH X2).all t).old _,aC.new _ _ _,by have:=t.size;simp at this;omega,(aE.zeroB ⟨H,l,K,F,rfl,i1⟩).below ((Below.refl _ _).alloc (Nat.le_refl _) _)⟩
 have V1:=aa h
 clear N h t i1 M X2 KO
 go_upto_region 3 with(fail)
 refine aq (fun W=>rG w W L.heap.size H l F.length K A) (uH V1) ?_
 clear V1
 intro W1 h
 generalize L.heap.size=g at*
 generalize F.length=l1 at*
 have O:=aa h
 have Q:=h.2.2.1.c0;have U:=h.2.2.1.c1;have f0:=h.2.2.1.free 0;have f1:=h.2.2.1.free 1
 clear h
 go_wp2_with(first|(go_at_call 104;refine(uH KP _).mono ?_;rintro r w2 ⟨rfl,rfl⟩)|(go_at_call 81;refine(uH KN _).mono ?_;rintro r w2 ⟨rfl,rfl⟩))
 refine(uH KV _ _ (uH O).2.2.2.2).mono ?_
 rintro r w9 ⟨u,rfl,hu,G⟩
 have V:=(uH O).below G
 have z:=V.2.1
 have V9:=aa V
 obtain⟨Z,a9,c9,L9,rfl,j9⟩:=hu
 have J:=aa (show aG w9 (.agg #[.bool Z,.slice a9 L9.length c9,.int .i64 Y]) X Y from⟨Z,a9,c9,L9,rfl,j9⟩)
 clear Q U f0 f1
 have Q:=z.c0;have U:=z.c1;have y2:=z.c2;have f0:=z.free 0;have f1:=z.free 1;have f2:=z.free 2
 clear G V z O j9
 go_wp2
 exact bodyPost_ret (v:=.agg #[.bool Z,.slice a9 L9.length c9,.int .i64 Y]) (by simp[results,Tryz.results58,go_sem,Q,U,y2]) rfl ⟨_,rfl,(uH J).put3 (uH V9).2.1 _ _ _,aD (uH V9).1 (Nat.le_refl _) _ _ _⟩
theorem xP(b:Nat)(f:Nat)(H m e X Y:Int)(w:World)(ae:IntKind.i64.wrap (f:Int)=H)
  (CF:∀w',Calls Tryz.prog 103 #[.int .u64 b] w' fun r d=>r=.returned (.int .u64 f)∧w'=d)
  (CP:∀w',Calls Tryz.prog 104 #[.int .u64 b] w' fun r d=>r=.returned (.int .i64 0)∧w'=d)
  (CN:∀w',Calls Tryz.prog 81 #[.int .u64 b] w' fun r d=>r=.returned (.bool true)∧w'=d)
  (CO:∀w',Calls Tryz.prog 102 #[.int .i64 H] w' fun r d=>∃v,r=.returned v∧aE 2 w'.heap.size d v H∧Below w'.heap.size w' d)
  (CV:∀w' v,aE 2 0 w' v (-m)→Calls Tryz.prog 55 #[v,.int .i64 e] w' fun r d=>∃u,r=.returned u∧aG d u X Y∧Below w'.heap.size w' d)
  (he:e= -1074) (hm:H=m)
  :Calls Tryz.prog 58 #[.int .u64 b] w fun r w'=>∃u,r=.returned u∧aG w' u X Y∧Below w.heap.size w w':=by
 subst he hm
 have KF:=aa CF;have KP:=aa CP;have KN:=aa CN;have KO:=aa CO;have KV:=aa CV
 clear CF CP CN CO CV
 have M:Below w.heap.size w (w.alloc (.cells #[.bool false,.slice none 0 0,.int .i64 0] 52)):=(Below.refl _ _).alloc (Nat.le_refl _) _
 have B0:=aa M;have X2:=aa (aB.new w (.bool false) (.slice none 0 0) (.int .i64 0))
 clear M
 go_enter Tryz.func58,Tryz.ntmps58
 go_wp2_with(go_at_call 103;refine(uH KF _).mono ?_;rintro r w2 ⟨rfl,rfl⟩)
 refine(uH KO _).mono ?_
 rintro r Z ⟨v,rfl,hv,z⟩
 obtain⟨U,t,V,N,rfl,i1⟩:=hv
 have b1:=(uH B0).trans (z.mono (uH B0).size)
 have l:rG w (Z.alloc (.cells #[.bool U,.slice t N.length V] 50)) Z.heap.size U t N.length V H:=
  ⟨b1.alloc b1.size _,((uH X2).all z).old _,aC.new _ _ _,by have:=z.size;simp at this;omega,(aE.zeroB ⟨U,t,V,N,rfl,i1⟩).below ((Below.refl _ _).alloc (Nat.le_refl _) _)⟩
 have V1:=aa l
 clear b1 l z i1 B0 X2 KO
 go_upto_region 3 with(fail)
 refine aq (fun W=>rG w W Z.heap.size U t N.length V H) (uH V1) ?_
 clear V1
 intro W1 l
 generalize Z.heap.size=g at*
 generalize N.length=l1 at*
 have A:=aa l
 have D:=l.2.2.1.c0;have F:=l.2.2.1.c1;have K:=l.2.2.1.free 0;have L:=l.2.2.1.free 1
 clear l
 go_wp2_with(first|(go_at_call 104;refine(uH KP _).mono ?_;rintro r w2 ⟨rfl,rfl⟩)|(go_at_call 81;refine(uH KN _).mono ?_;rintro r w2 ⟨rfl,rfl⟩))
 refine(nH (uH A).2.2.2.2 (by decide)).mono ?_
 rintro r w7 ⟨v,rfl,hv,O⟩
 have h:=(uH A).below O
 clear A O D F K L
 obtain⟨n7,a7,c7,L7,rfl,i7⟩:=hv
 have v6:=h.put ⟨n7,a7,c7,L7,rfl,i7⟩
 have V6:=aa v6
 have D:=h.2.2.1.c0;have F:=h.2.2.1.c1;have K:=h.2.2.1.free 0;have L:=h.2.2.1.free 1
 clear h v6 i7
 go_upto_region 8 with(fail)
 refine aq (fun W=>rG w W g n7 a7 L7.length c7 _) (uH V6) ?_
 clear V6 D F K L
 intro W7 h
 generalize L7.length=l7 at*
 have A:=aa h
 have D:=h.2.2.1.c0;have F:=h.2.2.1.c1;have K:=h.2.2.1.free 0;have L:=h.2.2.1.free 1
 clear h
 go_wp2_with fail
 refine(uH KV _ _ (uH A).2.2.2.2).mono ?_
 rintro r w9 ⟨u,rfl,hu,Q⟩
 have v9:=(uH A).below Q
 have G:=v9.2.1
 have V9:=aa v9
 obtain⟨n9,a9,c9,L9,rfl,j9⟩:=hu
 have J:=aa (show aG w9 (.agg #[.bool n9,.slice a9 L9.length c9,.int .i64 Y]) X Y from⟨n9,a9,c9,L9,rfl,j9⟩)
 clear D F K L
 have D:=G.c0;have F:=G.c1;have y2:=G.c2;have K:=G.free 0;have L:=G.free 1;have f2:=G.free 2
 clear Q v9 G A j9
 go_wp2
 exact bodyPost_ret (v:=.agg #[.bool n9,.slice a9 L9.length c9,.int .i64 Y]) (by simp[results,Tryz.results58,go_sem,D,F,y2]) rfl ⟨_,rfl,(uH J).put3 (uH V9).2.1 _ _ _,aD (uH V9).1 (Nat.le_refl _) _ _ _⟩
theorem xQ(b:Nat)(p:Nat)(f:Nat)(D a1 m e X Y:Int)(w:World)(h1:0<p)(ae:IntKind.i64.wrap (f:Int)=D)
  (CF:∀w',Calls Tryz.prog 103 #[.int .u64 b] w' fun r d=>r=.returned (.int .u64 f)∧w'=d)
  (CP:∀w',Calls Tryz.prog 104 #[.int .u64 b] w' fun r d=>r=.returned (.int .i64 p)∧w'=d)
  (CN:∀w',Calls Tryz.prog 81 #[.int .u64 b] w' fun r d=>r=.returned (.bool false)∧w'=d)
  (CO:∀w',Calls Tryz.prog 102 #[.int .i64 D] w' fun r d=>∃v,r=.returned v∧aE 2 w'.heap.size d v D∧Below w'.heap.size w' d)
  (CV:∀w' v,aE 2 0 w' v m→Calls Tryz.prog 55 #[v,.int .i64 e] w' fun r d=>∃u,r=.returned u∧aG d u X Y∧Below w'.heap.size w' d)
  (F:IntKind.u64.wrap ((f:Int)+4503599627370496)=a1) (G:IntKind.i64.wrap a1=m) (w3:IntKind.i64.wrap ((p:Int)-1075)=e)
  (C1:∀w',Calls Tryz.prog 102 #[.int .i64 m] w' fun r d=>∃v,r=.returned v∧aE 2 w'.heap.size d v m∧Below w'.heap.size w' d)
  :Calls Tryz.prog 58 #[.int .u64 b] w fun r w'=>∃u,r=.returned u∧aG w' u X Y∧Below w.heap.size w w':=by
 have aj:decide (0<p)=true:=decide_eq_true h1
 have KF:=aa CF;have KP:=aa CP;have KN:=aa CN;have KO:=aa CO;have KV:=aa CV
 clear CF CP CN CO CV
 have K1:=aa C1
 clear C1
 have H:Below w.heap.size w (w.alloc (.cells #[.bool false,.slice none 0 0,.int .i64 0] 52)):=(Below.refl _ _).alloc (Nat.le_refl _) _
 have B0:=aa H;have X2:=aa (aB.new w (.bool false) (.slice none 0 0) (.int .i64 0))
 clear H
 go_enter Tryz.func58,Tryz.ntmps58
 go_wp2_with(go_at_call 103;refine(uH KF _).mono ?_;rintro r G ⟨rfl,rfl⟩)
 refine(uH KO _).mono ?_
 rintro r F ⟨v,rfl,hv,t⟩
 obtain⟨Z,l,c1,N,rfl,i1⟩:=hv
 have b1:=(uH B0).trans (t.mono (uH B0).size)
 have K:rG w (F.alloc (.cells #[.bool Z,.slice l N.length c1] 50)) F.heap.size Z l N.length c1 D:=
  ⟨b1.alloc b1.size _,((uH X2).all t).old _,aC.new _ _ _,by have:=t.size;simp at this;omega,(aE.zeroB ⟨Z,l,c1,N,rfl,i1⟩).below ((Below.refl _ _).alloc (Nat.le_refl _) _)⟩
 have V1:=aa K
 clear b1 K t i1 B0 X2 KO
 go_upto_region 3 with(fail)
 refine aq (fun W=>rG w W F.heap.size Z l N.length c1 D) (uH V1) ?_
 clear V1
 intro W1 K
 generalize F.heap.size=g at*
 generalize N.length=l1 at*
 have A:=aa K
 clear K
 go_wp2_with(first|(go_at_call 104;refine(uH KP _).mono ?_;rintro r G ⟨rfl,rfl⟩)|(go_at_call 103;refine(uH KF _).mono ?_;rintro r G ⟨rfl,rfl⟩))
 refine(uH K1 _).mono ?_
 rintro r w5 ⟨v,rfl,hv,O⟩
 have h:=(uH A).below O
 clear A O K1
 obtain⟨n5,a5,c5,L5,rfl,i5⟩:=hv
 have v6:=h.put (aE.zeroB ⟨n5,a5,c5,L5,rfl,i5⟩)
 have V6:=aa v6
 have L:=h.2.2.1.c0;have M:=h.2.2.1.c1;have U:=h.2.2.1.free 0;have V:=h.2.2.1.free 1
 clear h v6 i5
 go_upto_region 5 with(fail)
 refine aq (fun W=>rG w W g n5 a5 L5.length c5 m) (uH V6) ?_
 clear V6 L M U V
 intro W5 h
 generalize L5.length=l5 at*
 have A:=aa h
 have L:=h.2.2.1.c0;have M:=h.2.2.1.c1;have U:=h.2.2.1.free 0;have V:=h.2.2.1.free 1
 clear h
 go_wp2_with(first|(go_at_call 104;refine(uH KP _).mono ?_;rintro r G ⟨rfl,rfl⟩)|(go_at_call 81;refine(uH KN _).mono ?_;rintro r G ⟨rfl,rfl⟩))
 refine(uH KV _ _ (uH A).2.2.2.2).mono ?_
 rintro r w9 ⟨u,rfl,hu,Q⟩
 have v9:=(uH A).below Q
 have z:=v9.2.1
 have V9:=aa v9
 obtain⟨n9,a9,c9,L9,rfl,j9⟩:=hu
 have J:=aa (show aG w9 (.agg #[.bool n9,.slice a9 L9.length c9,.int .i64 Y]) X Y from⟨n9,a9,c9,L9,rfl,j9⟩)
 clear L M U V
 have L:=z.c0;have M:=z.c1;have y2:=z.c2;have U:=z.free 0;have V:=z.free 1;have f2:=z.free 2
 clear Q v9 z A j9
 go_wp2
 exact bodyPost_ret (v:=.agg #[.bool n9,.slice a9 L9.length c9,.int .i64 Y]) (by simp[results,Tryz.results58,go_sem,L,M,y2]) rfl ⟨_,rfl,(uH J).put3 (uH V9).2.1 _ _ _,aD (uH V9).1 (Nat.le_refl _) _ _ _⟩
theorem xT(b:Nat)(p:Nat)(f:Nat)(K a1 m e X Y:Int)(w:World)(h1:0<p)(ao:IntKind.i64.wrap (f:Int)=K)
  (CF:∀w',Calls Tryz.prog 103 #[.int .u64 b] w' fun r d=>r=.returned (.int .u64 f)∧w'=d)
  (CP:∀w',Calls Tryz.prog 104 #[.int .u64 b] w' fun r d=>r=.returned (.int .i64 p)∧w'=d)
  (CN:∀w',Calls Tryz.prog 81 #[.int .u64 b] w' fun r d=>r=.returned (.bool true)∧w'=d)
  (CO:∀w',Calls Tryz.prog 102 #[.int .i64 K] w' fun r d=>∃v,r=.returned v∧aE 2 w'.heap.size d v K∧Below w'.heap.size w' d)
  (CV:∀w' v,aE 2 0 w' v (-m)→Calls Tryz.prog 55 #[v,.int .i64 e] w' fun r d=>∃u,r=.returned u∧aG d u X Y∧Below w'.heap.size w' d)
  (L:IntKind.u64.wrap ((f:Int)+4503599627370496)=a1) (M:IntKind.i64.wrap a1=m) (w3:IntKind.i64.wrap ((p:Int)-1075)=e)
  (C1:∀w',Calls Tryz.prog 102 #[.int .i64 m] w' fun r d=>∃v,r=.returned v∧aE 2 w'.heap.size d v m∧Below w'.heap.size w' d)
  :Calls Tryz.prog 58 #[.int .u64 b] w fun r w'=>∃u,r=.returned u∧aG w' u X Y∧Below w.heap.size w w':=by
 have ax:decide (0<p)=true:=decide_eq_true h1
 have KF:=aa CF;have KP:=aa CP;have KN:=aa CN;have KO:=aa CO;have KV:=aa CV
 clear CF CP CN CO CV
 have K1:=aa C1
 clear C1
 have N:Below w.heap.size w (w.alloc (.cells #[.bool false,.slice none 0 0,.int .i64 0] 52)):=(Below.refl _ _).alloc (Nat.le_refl _) _
 have B0:=aa N;have X2:=aa (aB.new w (.bool false) (.slice none 0 0) (.int .i64 0))
 clear N
 go_enter Tryz.func58,Tryz.ntmps58
 go_wp2_with(go_at_call 103;refine(uH KF _).mono ?_;rintro r M ⟨rfl,rfl⟩)
 refine(uH KO _).mono ?_
 rintro r L ⟨v,rfl,Z,D⟩
 obtain⟨n1,A,c1,V,rfl,i1⟩:=Z
 have b1:=(uH B0).trans (D.mono (uH B0).size)
 have O:rG w (L.alloc (.cells #[.bool n1,.slice A V.length c1] 50)) L.heap.size n1 A V.length c1 K:=
  ⟨b1.alloc b1.size _,((uH X2).all D).old _,aC.new _ _ _,by have:=D.size;simp at this;omega,(aE.zeroB ⟨n1,A,c1,V,rfl,i1⟩).below ((Below.refl _ _).alloc (Nat.le_refl _) _)⟩
 have V1:=aa O
 clear b1 O D i1 B0 X2 KO
 go_upto_region 3 with(fail)
 refine aq (fun W=>rG w W L.heap.size n1 A V.length c1 K) (uH V1) ?_
 clear V1
 intro W1 O
 generalize L.heap.size=g at*
 generalize V.length=l1 at*
 have l:=aa O
 clear O
 go_wp2_with(first|(go_at_call 104;refine(uH KP _).mono ?_;rintro r M ⟨rfl,rfl⟩)|(go_at_call 103;refine(uH KF _).mono ?_;rintro r M ⟨rfl,rfl⟩))
 refine(uH K1 _).mono ?_
 rintro r w5 ⟨v,rfl,Z,ae⟩
 have h:=(uH l).below ae
 clear l ae K1
 obtain⟨n5,a5,c5,L5,rfl,i5⟩:=Z
 have Q:=h.put (aE.zeroB ⟨n5,a5,c5,L5,rfl,i5⟩)
 have U:=aa Q
 have t:=h.2.2.1.c0;have z:=h.2.2.1.c1;have F:=h.2.2.1.free 0;have G:=h.2.2.1.free 1
 clear h Q i5
 go_upto_region 5 with(fail)
 refine aq (fun W=>rG w W g n5 a5 L5.length c5 m) (uH U) ?_
 clear U t z F G
 intro W5 h
 generalize L5.length=l5 at*
 have l:=aa h
 have t:=h.2.2.1.c0;have z:=h.2.2.1.c1;have F:=h.2.2.1.free 0;have G:=h.2.2.1.free 1
 clear h
 go_wp2_with(first|(go_at_call 104;refine(uH KP _).mono ?_;rintro r M ⟨rfl,rfl⟩)|(go_at_call 81;refine(uH KN _).mono ?_;rintro r M ⟨rfl,rfl⟩))
 refine(nH (uH l).2.2.2.2 (by decide)).mono ?_
 rintro r w7 ⟨v,rfl,Z,aj⟩
 have h:=(uH l).below aj
 clear l aj t z F G
 obtain⟨n7,a7,c7,L7,rfl,i7⟩:=Z
 have Q:=h.put ⟨n7,a7,c7,L7,rfl,i7⟩
 have U:=aa Q
 have t:=h.2.2.1.c0;have z:=h.2.2.1.c1;have F:=h.2.2.1.free 0;have G:=h.2.2.1.free 1
 clear h Q i7
 go_upto_region 8 with(fail)
 refine aq (fun W=>rG w W g n7 a7 L7.length c7 _) (uH U) ?_
 clear U t z F G
 intro W7 h
 generalize L7.length=l7 at*
 have l:=aa h
 have t:=h.2.2.1.c0;have z:=h.2.2.1.c1;have F:=h.2.2.1.free 0;have G:=h.2.2.1.free 1
 clear h
 go_wp2_with fail
 refine(uH KV _ _ (uH l).2.2.2.2).mono ?_
 rintro r w9 ⟨u,rfl,hu,am⟩
 have v9:=(uH l).below am
 have H:=v9.2.1
 have V9:=aa v9
 obtain⟨n9,a9,c9,L9,rfl,j9⟩:=hu
 have J:=aa (show aG w9 (.agg #[.bool n9,.slice a9 L9.length c9,.int .i64 Y]) X Y from⟨n9,a9,c9,L9,rfl,j9⟩)
 clear t z F G
 have t:=H.c0;have z:=H.c1;have y2:=H.c2;have F:=H.free 0;have G:=H.free 1;have f2:=H.free 2
 clear am v9 H l j9
 go_wp2
 exact bodyPost_ret (v:=.agg #[.bool n9,.slice a9 L9.length c9,.int .i64 Y]) (by simp[results,Tryz.results58,go_sem,t,z,y2]) rfl ⟨_,rfl,(uH J).put3 (uH V9).2.1 _ _ _,aD (uH V9).1 (Nat.le_refl _) _ _ _⟩
theorem jR(b:Nat)(w:World)(h:b<18446744073709551616):
  Calls Tryz.prog 58 #[.int .u64 b] w fun r w'=>∃u,r=.returned u∧aG w' u (fD b) (fX b)∧Below w.heap.size w w':=by
 have G:=fun w'=>pF b w' h
 have A:=fun w'=>jO b w' h
 have f:=fun w'=>fY b w' h
 have O:=rO b
 have Q:=mY b
 have U:=Ac b
 have H:fD b=oM (fM b):=rfl
 have K:fX b=oE (fM b) (fE b):=rfl
 have l:fM b=sg (fS b) (fA b):=rfl
 rw[H,K]
 by_cases D:fP b=0
 ·have m:fE b= -1074:=by unfold fE;rw[if_pos D]
  have t:fA b=fF b:=by unfold fA;rw[if_pos D]
  rw[D]at A
  have F:IntKind.i64.wrap (fF b:Int)=(fF b:Int):=by simp only[IntKind.wrap_i64];omega
  cases hs:fS b with
  |false=>
   rw[hs]at f l
   have z:(fF b:Int)=fM b:=by rw[l,t];rfl
   exact xO b (fF b) (fF b:Int) (fM b) (fE b) _ _ w F G A f (fun w'=>f9 _ w' (by omega) (by omega)) (fun w' v d=>gY (fE b) d (by decide) (by omega)) m z
  |true=>
   rw[hs]at f l
   have z:(fF b:Int)= -fM b:=by rw[l,t];simp[sg]
   refine xP b (fF b) (fF b:Int) (fF b:Int) (fE b) _ _ w F G A f (fun w'=>f9 _ w' (by omega) (by omega)) (fun w' v d=>?_) m rfl
   have:-(fF b:Int)=fM b:=by omega
   rw[this]at d
   exact gY (fE b) d (by decide) (by omega)
 ·have m:fE b=(fP b:Int)-1075:=by unfold fE;rw[if_neg D]
  have t:fA b=fF b+4503599627370496:=by unfold fA;rw[if_neg D]
  have F:IntKind.i64.wrap (fF b:Int)=(fF b:Int):=by simp only[IntKind.wrap_i64];omega
  have L:IntKind.u64.wrap ((fF b:Int)+4503599627370496)=(fA b:Int):=by simp only[IntKind.wrap_u64];omega
  have M:IntKind.i64.wrap (fA b:Int)=(fA b:Int):=by simp only[IntKind.wrap_i64];omega
  have N:IntKind.i64.wrap ((fP b:Int)-1075)=fE b:=by simp only[IntKind.wrap_i64];omega
  have V:=F8 b
  cases hs:fS b with
  |false=>
   rw[hs]at f l
   have z:(fA b:Int)=fM b:=by rw[l];rfl
   refine xQ b (fP b) (fF b) (fF b:Int) (fA b:Int) (fA b:Int) (fE b) _ _ w (by omega) F G A f (fun w'=>f9 _ w' (by omega) (by omega)) (fun w' v d=>?_) L M N (fun w'=>f9 _ w' (by omega) (by omega))
   rw[z]at d
   exact gY (fE b) d (by decide) (by omega)
  |true=>
   rw[hs]at f l
   have z:-(fA b:Int)=fM b:=by rw[l];simp[sg]
   refine xT b (fP b) (fF b) (fF b:Int) (fA b:Int) (fA b:Int) (fE b) _ _ w (by omega) F G A f (fun w'=>f9 _ w' (by omega) (by omega)) (fun w' v d=>?_) L M N (fun w'=>f9 _ w' (by omega) (by omega))
   rw[z]at d
   exact gY (fE b) d (by decide) (by omega)
theorem iy{L:List Nat}{n:Bool}(f:bd L)(h:ar n L=true):dH L=(bl (ak L):Int):=by
 rw[gZ]
 by_cases d:L= []
 ·subst d;rfl
 ·obtain⟨l,m,t⟩:=g6 L f (ay h).2.1 d
  rw[ke l m t]
theorem jj{B:Nat}{w:World}{v:Value}{z:Int}(t:au B w v z)(D:-9223372036854775808≤z∧z≤9223372036854775807):
  Calls Tryz.prog 211 #[v] w fun e w'=>e=.returned (.tuple #[.int .i64 z,.int .i64 0])∧Below w.heap.size w w':=by
 obtain⟨d,H,K,A,rfl,L,f,m,_⟩:=t.right (qD (k:=64) (by have:(2:Nat)^64=18446744073709551616:=(by decide);omega) (by decide))
 have h:=pL d H K A w L (by have:=(ay f).1;omega)
 have l:io (af d A)=true:=by unfold io;rw[m];exact decide_eq_true D
 have F:rF d A=z:=by unfold rF;rw[f,l];simpa using m
 have G:rE d A=0:=by unfold rE;rw[f,l];rfl
 rw[F,G]at h
 exact h
theorem xU(n:Nat)(h:n<1152921504606846976):bits .and .i64 (n:Int) 1=((n%2:Nat):Int):=by
 have d:=Go.bits_nat .i64 62 (by decide) (fun x l d=>by rw[IntKind.wrap_i64];simp at d;omega) n 1 (by simp;omega) (by decide)
 have f:=d.1
 refine f.trans ?_
 rw[Nat.and_one_is_mod]
theorem xW(n:Nat)(h:n<1152921504606846976):bits .and .i64 (n:Int) 2=((2*(n/2%2):Nat):Int):=by
 have d:=Go.bits_nat .i64 62 (by decide) (fun x t d=>by rw[IntKind.wrap_i64];simp at d;omega) n 2 (by simp;omega) (by decide)
 have l:=d.1
 refine l.trans ?_
 have m:(n&&& 2)%2=0:=by
  have:=Nat.and_mod_two_pow (a:=n) (b:=2) (n:=1)
  simpa using this
 have f:(n&&& 2)/2=(n/2)&&& 1:=by
  have:=Nat.and_div_two_pow (a:=n) (b:=2) (n:=1)
  simpa using this
 rw[Nat.and_one_is_mod]at f
 have:=Nat.div_add_mod (n&&& 2) 2
 rw[m,f]at this
 congr 1
 omega
theorem xX(F:Bool)(h:Option Addr)(m l N:Nat)(E d:Int)(q:Bool)(w:World)(hE:-20000≤E∧E≤20000)(hL:-20000≤d∧d≤20000)(ae:(0:Int)≤N)(hN:(N:Int)<1152921504606846976)
  (Y:∀w',Below w.heap.size w w'→Calls Tryz.prog 198 #[.agg #[.bool false,.slice h l m],.int .i64 (E-d+1)] w' fun e A=>∃v,e=.returned (.tuple #[v,.int .i64 0])∧au w'.heap.size A v N∧Below w'.heap.size w' A)
  (p1:bits .and .i64 (N:Int) 1=0) (t1:(E==d-1)=q):
  Calls Tryz.prog 200 #[.agg #[.bool F,.slice h l m,.int .i64 E],.int .i64 d] w fun e w'=>e=.returned (.int .u64 ((N/2:Nat):Int))∧Below w.heap.size w w':=by
 have Z:=aa Y
 clear Y
 obtain⟨r1,r2⟩:=hE
 obtain⟨r3,r4⟩:=hL
 have D:Below w.heap.size w ((w.alloc (.cells #[.bool F,.slice h l m,.int .i64 E] 52)).alloc (.cells #[.bool false,.slice h l m] 50)):=((Below.refl _ _).alloc (Nat.le_refl _) _).alloc (by simp) _
 have G:=aa D
 have X0:=aa (show aB ((w.alloc (.cells #[.bool F,.slice h l m,.int .i64 E] 52)).alloc (.cells #[.bool false,.slice h l m] 50)) w.heap.size (.bool F) (.slice h l m) (.int .i64 E)from(aB.new _ _ _ _).old _)
 clear D
 go_enter Tryz.func200,Tryz.ntmps200
 go_wp2_with fail
 refine(uH Z _ (uH G)).mono ?_
 rintro e M ⟨v,rfl,hv,t⟩
 have O:=(uH G).trans (t.mono (uH G).size)
 have x1:=(uH X0).all t
 obtain⟨U,V,X,K,rfl,L⟩:=hv
 have f:Below M.heap.size M (M.alloc (.cells #[.bool U,.slice V K.length X] 50)):=(Below.refl _ _).alloc (Nat.le_refl _) _
 have HV:=aa ((show au 0 M (.agg #[.bool U,.slice V K.length X]) N from⟨U,V,X,K,rfl,L.1,bG.zero L.1,L.2.2⟩).below f)
 have Q:=aa (O.trans (f.mono O.size))
 have X2:=aa (x1.all f)
 clear t O x1 L f G X0 Z
 generalize K.length=l1 at*
 go_wp2_with fail
 refine(jj (uH HV) (by omega)).mono ?_
 rintro e w3 ⟨rfl,z⟩
 have H:=(uH X2).all z
 have B3:=aa ((uH Q).trans (z.mono (uH Q).size))
 have y0:=H.c0;have y1:=H.c1;have y2:=H.c2
 clear z H X2 Q HV
 go_wp2
 go_ret
 exact⟨rfl,uH B3⟩
theorem xY(F:Bool)(h:Option Addr)(m l N:Nat)(E d:Int)(w:World)(hE:-20000≤E∧E≤20000)(hL:-20000≤d∧d≤20000)(ae:(0:Int)≤N)(hN:(N:Int)<1152921504606846976)
  (Y:∀w',Below w.heap.size w w'→Calls Tryz.prog 198 #[.agg #[.bool false,.slice h l m],.int .i64 (E-d+1)] w' fun e A=>∃v,e=.returned (.tuple #[v,.int .i64 0])∧au w'.heap.size A v N∧Below w'.heap.size w' A)
  (p1:bits .and .i64 (N:Int) 1=1) (t1:(E==d-1)=false):
  Calls Tryz.prog 200 #[.agg #[.bool F,.slice h l m,.int .i64 E],.int .i64 d] w fun e w'=>e=.returned (.int .u64 (((N+1)/2:Nat):Int))∧Below w.heap.size w w':=by
 have Z:=aa Y
 clear Y
 obtain⟨r1,r2⟩:=hE
 obtain⟨r3,r4⟩:=hL
 have D:Below w.heap.size w ((w.alloc (.cells #[.bool F,.slice h l m,.int .i64 E] 52)).alloc (.cells #[.bool false,.slice h l m] 50)):=((Below.refl _ _).alloc (Nat.le_refl _) _).alloc (by simp) _
 have G:=aa D
 have X0:=aa (show aB ((w.alloc (.cells #[.bool F,.slice h l m,.int .i64 E] 52)).alloc (.cells #[.bool false,.slice h l m] 50)) w.heap.size (.bool F) (.slice h l m) (.int .i64 E)from(aB.new _ _ _ _).old _)
 clear D
 go_enter Tryz.func200,Tryz.ntmps200
 go_wp2_with fail
 refine(uH Z _ (uH G)).mono ?_
 rintro e M ⟨v,rfl,hv,t⟩
 have O:=(uH G).trans (t.mono (uH G).size)
 have x1:=(uH X0).all t
 obtain⟨U,V,X,K,rfl,L⟩:=hv
 have f:Below M.heap.size M (M.alloc (.cells #[.bool U,.slice V K.length X] 50)):=(Below.refl _ _).alloc (Nat.le_refl _) _
 have HV:=aa ((show au 0 M (.agg #[.bool U,.slice V K.length X]) N from⟨U,V,X,K,rfl,L.1,bG.zero L.1,L.2.2⟩).below f)
 have Q:=aa (O.trans (f.mono O.size))
 have X2:=aa (x1.all f)
 clear t O x1 L f G X0 Z
 generalize K.length=l1 at*
 go_wp2_with fail
 refine(jj (uH HV) (by omega)).mono ?_
 rintro e w3 ⟨rfl,z⟩
 have H:=(uH X2).all z
 have B3:=aa ((uH Q).trans (z.mono (uH Q).size))
 have y0:=H.c0;have y1:=H.c1;have y2:=H.c2
 clear z H X2 Q HV
 go_wp2
 go_ret
 exact⟨rfl,uH B3⟩
theorem xZ(F:Bool)(h:Option Addr)(m l N:Nat)(E d:Int)(w:World)(hE:-20000≤E∧E≤20000)(hL:-20000≤d∧d≤20000)(ae:(0:Int)≤N)(hN:(N:Int)<1152921504606846976)
  (Y:∀w',Below w.heap.size w w'→Calls Tryz.prog 198 #[.agg #[.bool false,.slice h l m],.int .i64 (E-d+1)] w' fun e A=>∃v,e=.returned (.tuple #[v,.int .i64 0])∧au w'.heap.size A v N∧Below w'.heap.size w' A)
  (p1:bits .and .i64 (N:Int) 1=1) (t1:(E==d-1)=true) (p2:bits .and .i64 (N:Int) 2=2):
  Calls Tryz.prog 200 #[.agg #[.bool F,.slice h l m,.int .i64 E],.int .i64 d] w fun e w'=>e=.returned (.int .u64 (((N+1)/2:Nat):Int))∧Below w.heap.size w w':=by
 have Z:=aa Y
 clear Y
 obtain⟨r1,r2⟩:=hE
 obtain⟨r3,r4⟩:=hL
 have D:Below w.heap.size w ((w.alloc (.cells #[.bool F,.slice h l m,.int .i64 E] 52)).alloc (.cells #[.bool false,.slice h l m] 50)):=((Below.refl _ _).alloc (Nat.le_refl _) _).alloc (by simp) _
 have G:=aa D
 have X0:=aa (show aB ((w.alloc (.cells #[.bool F,.slice h l m,.int .i64 E] 52)).alloc (.cells #[.bool false,.slice h l m] 50)) w.heap.size (.bool F) (.slice h l m) (.int .i64 E)from(aB.new _ _ _ _).old _)
 clear D
 go_enter Tryz.func200,Tryz.ntmps200
 go_wp2_with fail
 refine(uH Z _ (uH G)).mono ?_
 rintro e M ⟨v,rfl,hv,t⟩
 have O:=(uH G).trans (t.mono (uH G).size)
 have x1:=(uH X0).all t
 obtain⟨U,V,X,K,rfl,L⟩:=hv
 have f:Below M.heap.size M (M.alloc (.cells #[.bool U,.slice V K.length X] 50)):=(Below.refl _ _).alloc (Nat.le_refl _) _
 have HV:=aa ((show au 0 M (.agg #[.bool U,.slice V K.length X]) N from⟨U,V,X,K,rfl,L.1,bG.zero L.1,L.2.2⟩).below f)
 have Q:=aa (O.trans (f.mono O.size))
 have X2:=aa (x1.all f)
 clear t O x1 L f G X0 Z
 generalize K.length=l1 at*
 go_wp2_with fail
 refine(jj (uH HV) (by omega)).mono ?_
 rintro e w3 ⟨rfl,z⟩
 have H:=(uH X2).all z
 have B3:=aa ((uH Q).trans (z.mono (uH Q).size))
 have y0:=H.c0;have y1:=H.c1;have y2:=H.c2
 clear z H X2 Q HV
 go_wp2
 go_ret
 exact⟨rfl,uH B3⟩
theorem ya(F:Bool)(h:Option Addr)(m l N:Nat)(E d:Int)(w:World)(hE:-20000≤E∧E≤20000)(hL:-20000≤d∧d≤20000)(ae:(0:Int)≤N)(hN:(N:Int)<1152921504606846976)
  (Y:∀w',Below w.heap.size w w'→Calls Tryz.prog 198 #[.agg #[.bool false,.slice h l m],.int .i64 (E-d+1)] w' fun e A=>∃v,e=.returned (.tuple #[v,.int .i64 0])∧au w'.heap.size A v N∧Below w'.heap.size w' A)
  (p1:bits .and .i64 (N:Int) 1=1) (t1:(E==d-1)=true) (p2:bits .and .i64 (N:Int) 2=0):
  Calls Tryz.prog 200 #[.agg #[.bool F,.slice h l m,.int .i64 E],.int .i64 d] w fun e w'=>e=.returned (.int .u64 ((N/2:Nat):Int))∧Below w.heap.size w w':=by
 have Z:=aa Y
 clear Y
 obtain⟨r1,r2⟩:=hE
 obtain⟨r3,r4⟩:=hL
 have D:Below w.heap.size w ((w.alloc (.cells #[.bool F,.slice h l m,.int .i64 E] 52)).alloc (.cells #[.bool false,.slice h l m] 50)):=((Below.refl _ _).alloc (Nat.le_refl _) _).alloc (by simp) _
 have G:=aa D
 have X0:=aa (show aB ((w.alloc (.cells #[.bool F,.slice h l m,.int .i64 E] 52)).alloc (.cells #[.bool false,.slice h l m] 50)) w.heap.size (.bool F) (.slice h l m) (.int .i64 E)from(aB.new _ _ _ _).old _)
 clear D
 go_enter Tryz.func200,Tryz.ntmps200
 go_wp2_with fail
 refine(uH Z _ (uH G)).mono ?_
 rintro e M ⟨v,rfl,hv,t⟩
 have O:=(uH G).trans (t.mono (uH G).size)
 have x1:=(uH X0).all t
 obtain⟨U,V,X,K,rfl,L⟩:=hv
 have f:Below M.heap.size M (M.alloc (.cells #[.bool U,.slice V K.length X] 50)):=(Below.refl _ _).alloc (Nat.le_refl _) _
 have HV:=aa ((show au 0 M (.agg #[.bool U,.slice V K.length X]) N from⟨U,V,X,K,rfl,L.1,bG.zero L.1,L.2.2⟩).below f)
 have Q:=aa (O.trans (f.mono O.size))
 have X2:=aa (x1.all f)
 clear t O x1 L f G X0 Z
 generalize K.length=l1 at*
 go_wp2_with fail
 refine(jj (uH HV) (by omega)).mono ?_
 rintro e w3 ⟨rfl,z⟩
 have H:=(uH X2).all z
 have B3:=aa ((uH Q).trans (z.mono (uH Q).size))
 have y0:=H.c0;have y1:=H.c1;have y2:=H.c2
 clear z H X2 Q HV
 go_wp2
 go_ret
 exact⟨rfl,uH B3⟩
theorem Ek{n:Bool}{L:List Nat}{e:Int}(h:j6 n L e=true)(d:L≠ []):ak L%2=1:=by
 unfold j6 at h
 have l:L.length≠0:=fun f=>d (List.length_eq_zero_iff.1 f)
 rw[if_neg l]at h
 simp only[Bool.and_eq_true,decide_eq_true_eq]at h
 exact h.2.1
theorem uM{n:Bool}{L:List Nat}(h:ar n L=true):ar false L=true:=by
 unfold ar at*
 revert h
 cases n<;>simp
 intro d l f
 exact⟨d,f⟩
theorem An{l:Bool}{A:List Nat}(j:Int)(m:ar l A=true)(t:-16384≤j+1∧j+1≤16384)(z:pN (ak A) j<1152921504606846976):
  ur false A (j+1)=0∧rW false A (j+1)=(pN (ak A) j:Int):=by
 have d:k8 false A (j+1)=true:=by unfold k8;rw[uM m,decide_eq_true t];rfl
 have f:oY false A (j+1)=(pN (ak A) j:Int):=by unfold oY pN sg;rfl
 have h:(oY false A (j+1)).natAbs<dE:=by
  rw[f]
  exact qD (k:=60) (by have:(2:Nat)^60=1152921504606846976:=(by decide);omega) (by decide)
 unfold ur rW
 rw[if_pos d,if_pos d,fh _ h,fi _ h,f]
 exact⟨rfl,rfl⟩
theorem su(m:Bool)(h:Option Addr)(l:Nat)(A:List Nat)(E d:Int)(w:World)(Z:ag w h l A)(X:j6 m A E=true)(h0:A≠ [])(hL:-2000≤d∧d≤2000)(hj:-16384≤E-d+1∧E-d+1≤16384)(K:pN (ak A) (E-d)<1152921504606846976):
  Calls Tryz.prog 200 #[.agg #[.bool m,.slice h A.length l,.int .i64 E],.int .i64 d] w fun e w'=>e=.returned (.int .u64 (mS (ak A) (E-d):Nat))∧Below w.heap.size w w':=by
 obtain⟨d1,d2,d3,d4,d5⟩:=bR X
 have ho:=Ek X h0
 obtain⟨s1,s2⟩:=An (E-d) d1 hj K
 have D:∀w',Below w.heap.size w w'→Calls Tryz.prog 198 #[.agg #[.bool false,.slice h A.length l],.int .i64 (E-d+1)] w' fun e z=>∃v,e=.returned (.tuple #[v,.int .i64 0])∧au w'.heap.size z v (pN (ak A) (E-d))∧Below w'.heap.size w' z:=by
  intro w' hb
  have:=gW false h l A (E-d+1) w' (Z.below hb) (by omega) (by omega)
  rw[s1,s2]at this
  exact this
 have t:=xU _ K
 have F:=xW _ K
 rw[←IM _ _ ho]
 have L:pM (ak A) (E-d)=(pN (ak A) (E-d)+(IH (ak A) (E-d)).toNat)/2:=rfl
 have M:IH (ak A) (E-d)=(decide (pN (ak A) (E-d)%2=1)&&(!decide (E-d= -1)||decide (pN (ak A) (E-d)/2%2=1))):=rfl
 rw[L,M]
 generalize pN (ak A) (E-d)=N at*
 have G:-20000≤E∧E≤20000:=by omega
 have f:-20000≤d∧d≤20000:=by omega
 by_cases O:N%2=1
 ·rw[O]at t
  rw[decide_eq_true O]
  by_cases Y:E-d= -1
  ·have H:(E==d-1)=true:=by simp;omega
   rw[decide_eq_true Y]
   by_cases Q:N/2%2=1
   ·rw[Q]at F
    rw[decide_eq_true Q]
    exact xZ m h l A.length N E d w G f (by omega) (by omega) D t H F
   ·have U:N/2%2=0:=by omega
    rw[U]at F
    rw[decide_eq_false Q]
    exact ya m h l A.length N E d w G f (by omega) (by omega) D t H F
  ·have H:(E==d-1)=false:=by simp;omega
   rw[decide_eq_false Y]
   exact xY m h l A.length N E d w G f (by omega) (by omega) D t H
 ·have V:N%2=0:=by omega
  rw[V]at t
  rw[decide_eq_false O]
  exact xX m h l A.length N E d _ w G f (by omega) (by omega) D t rfl
end Go.Proofs.YtnnfjeieennffaaGreatDoor
