/- Part 44 of the texts. -/
import Derived.Test.YtenpggicmfhhdaaGreatDoorParte43
import Derived.Test.YtenpggicmfhhdaaGreatDoorChecked
import Derived.Lib.SmallJoins
set_option maxHeartbeats 32000000
set_option maxRecDepth 20000
namespace Go.Proofs.YtenpggicmfhhdaaGreatDoor
open Go.RowKit
attribute [local go_sem ↓] Go.wp_at_zero Go.wp_at_succ
def iQ(W:World)(k:Bool)(p1 p2 p3 p4 nq nr:Nat)(Q R:List Nat)(a1 a2:Int)(o:Option Addr)(m d:Nat)(a3 a4:Int)(o2:Option Addr)(m2 d2:Nat):Prop:=
 k=true→a1=(p1:Int)∧a2=(p2:Int)∧m=nq∧a3=(p3:Int)∧a4=(p4:Int)∧m2=nr∧ab W o d (ar Q)∧ab W o2 d2 (ar R)
theorem iQ.below{W f:World}{k:Bool}{l p2 t y nq z:Nat}{Q R:List Nat}{A D:Int}{o:Option Addr}{m d:Nat}{F G:Int}{H:Option Addr}{I K:Nat}(h:iQ W k l p2 t y nq z Q R A D o m d F G H I K)(L:Below W.heap.size W f):iQ f k l p2 t y nq z Q R A D o m d F G H I K:=
 fun e=>⟨(h e).1,(h e).2.1,(h e).2.2.1,(h e).2.2.2.1,(h e).2.2.2.2.1,(h e).2.2.2.2.2.1,(h e).2.2.2.2.2.2.1.below L,(h e).2.2.2.2.2.2.2.below L⟩
theorem iQ.putW{W:World}{k:Bool}{l p2 t z nq A:Nat}{Q R:List Nat}{D F:Int}{o:Option Addr}{m d:Nat}{G H:Int}{I:Option Addr}{K L:Nat}(h:iQ W k l p2 t z nq A Q R D F o m d G H I K L){g:Nat}{x y N O:Int}{j T:Option Addr}{n c U V:Nat}{f:Bool}(M:bw W g (.int .i64 x) (.int .i64 y) (.slice j n c) (.int .i64 N) (.int .i64 O) (.slice T U V) (.bool f))(u0 u1 u2 u3 u4 u5 u6:Value):iQ (((((((W.setCell ⟨g,0,none⟩ u0).setCell ⟨g,1,none⟩ u1).setCell ⟨g,2,none⟩ u2).setCell ⟨g,3,none⟩ u3).setCell ⟨g,4,none⟩ u4).setCell ⟨g,5,none⟩ u5).setCell ⟨g,6,none⟩ u6) k l p2 t z nq A Q R D F o m d G H I K L:=
 fun e=>⟨(h e).1,(h e).2.1,(h e).2.2.1,(h e).2.2.2.1,(h e).2.2.2.2.1,(h e).2.2.2.2.2.1,bg (h e).2.2.2.2.2.2.1 M u0 u1 u2 u3 u4 u5 u6,bg (h e).2.2.2.2.2.2.2 M u0 u1 u2 u3 u4 u5 u6⟩
theorem gy.shape{l:World}{k:Bool}{t p2 y z nq f:Nat}{Q R:List Nat}{e:Ending}(h:gy l k t p2 y z nq f Q R e):∃(A D:Int) (o:Option Addr) (m d:Nat) (F G:Int) (H:Option Addr) (I K:Nat),e=.returned (.agg #[.int .i64 A,.int .i64 D,.slice o m d,.int .i64 F,.int .i64 G,.slice H I K,.bool k])∧iQ l k t p2 y z nq f Q R A D o m d F G H I K:=by
 rcases h with⟨rfl,L,M,N,O,rfl,T,U⟩|⟨rfl,rfl⟩
 ·exact⟨_,_,L,nq,M,_,_,N,f,O,rfl,fun _=>⟨rfl,rfl,rfl,rfl,rfl,rfl,T,U⟩⟩
 ·exact⟨0,0,none,0,0,0,0,none,0,0,rfl,fun e=>by cases e⟩
theorem au.neW{w:World}{b g:Nat}{x y z f l m t A D F:Value}(h:au w b x y z)(d:bw w g f l m t A D F):b≠g:=by
 rintro rfl
 unfold au at h
 unfold bw at d
 rw[h]at d
 simp at d
theorem au.seven{w:World}{b g:Nat}{x y z:Value}(h:au w b x y z)(d:b≠g)(u0 u1 u2 u3 u4 u5 u6:Value):au (((((((w.setCell ⟨g,0,none⟩ u0).setCell ⟨g,1,none⟩ u1).setCell ⟨g,2,none⟩ u2).setCell ⟨g,3,none⟩ u3).setCell ⟨g,4,none⟩ u4).setCell ⟨g,5,none⟩ u5).setCell ⟨g,6,none⟩ u6) b x y z:=(((((((h.other (p:=⟨g,0,none⟩) d u0).other (p:=⟨g,1,none⟩) d u1).other (p:=⟨g,2,none⟩) d u2).other (p:=⟨g,3,none⟩) d u3).other (p:=⟨g,4,none⟩) d u4).other (p:=⟨g,5,none⟩) d u5).other (p:=⟨g,6,none⟩) d u6)
theorem bw.seven{w:World}{b g:Nat}{f l m t y z A:Value}(h:bw w b f l m t y z A)(d:b≠g)(u0 u1 u2 u3 u4 u5 u6:Value):bw (((((((w.setCell ⟨g,0,none⟩ u0).setCell ⟨g,1,none⟩ u1).setCell ⟨g,2,none⟩ u2).setCell ⟨g,3,none⟩ u3).setCell ⟨g,4,none⟩ u4).setCell ⟨g,5,none⟩ u5).setCell ⟨g,6,none⟩ u6) b f l m t y z A:=(((((((h.other (p:=⟨g,0,none⟩) d u0).other (p:=⟨g,1,none⟩) d u1).other (p:=⟨g,2,none⟩) d u2).other (p:=⟨g,3,none⟩) d u3).other (p:=⟨g,4,none⟩) d u4).other (p:=⟨g,5,none⟩) d u5).other (p:=⟨g,6,none⟩) d u6)
structure ol (w wr:World) (g1 g2:Nat) (a0 a1 a2 l0 l1 l2 p0 p1 p2 r0 r1 r2 q0 q1 q2:Value):Prop where
 bel:Below w.heap.size w wr
 a:au wr w.heap.size a0 a1 a2
 l:au wr g1 l0 l1 l2
 p:au wr (g1+1) p0 p1 p2
 r:au wr g2 r0 r1 r2
 q:au wr (g2+1) q0 q1 q2
theorem ol.all{w wr f:World}{m t:Nat}{y z A D F G H I p2 K L M N O Q:Value}(h:ol w wr m t y z A D F G H I p2 K L M N O Q)(d:Below wr.heap.size wr f):ol w f m t y z A D F G H I p2 K L M N O Q:=
 ⟨h.bel.trans (d.mono h.bel.size),h.a.all d,h.l.all d,h.p.all d,h.r.all d,h.q.all d⟩
theorem ol.putW{w wr:World}{f m:Nat}{t y z A D F G H p2 I K L M N O:Value}(h:ol w wr f m t y z A D F G H p2 I K L M N O){g:Nat}{Q T U V X Y Z:Value}(d:bw wr g Q T U V X Y Z)(hg:w.heap.size≤g)(u0 u1 u2 u3 u4 u5 u6:Value):ol w (((((((wr.setCell ⟨g,0,none⟩ u0).setCell ⟨g,1,none⟩ u1).setCell ⟨g,2,none⟩ u2).setCell ⟨g,3,none⟩ u3).setCell ⟨g,4,none⟩ u4).setCell ⟨g,5,none⟩ u5).setCell ⟨g,6,none⟩ u6) f m t y z A D F G H p2 I K L M N O:=
 ⟨cq h.bel hg _ _ _ _ _ _ _,h.a.seven (h.a.neW d) _ _ _ _ _ _ _,h.l.seven (h.l.neW d) _ _ _ _ _ _ _,h.p.seven (h.p.neW d) _ _ _ _ _ _ _,h.r.seven (h.r.neW d) _ _ _ _ _ _ _,h.q.seven (h.q.neW d) _ _ _ _ _ _ _⟩
theorem d7(r c:Int)(ao:Option Addr)(n ax:Nat)(p1 p2 p3 p4 t1 t2 t3 t4:Nat)(LL LP LR LQ:List Nat)(e1 e2 g h:Int)(ok k1 k2:Bool)(c1 c2 c3 c4 m1 bm d1 bn d3 d4 n1 n2:Nat)(XQ XR YQ YR:List Nat)(w:World)
  (bo:(ok=false∧g=1∧h=1)∨(ok=true∧c<r∧g=4∧h=3)∨(ok=true∧r≤c∧g=4∧h=4)∨(ok=true∧c<r∧g=0∧h=3)∨(ok=true∧r≤c∧g=0∧h=0))
  (C1:∀T,Below w.heap.size w T→Calls Tryz.prog 12 #[.agg #[.int .i64 r,.int .i64 c,.slice ao n ax]] T fun e Q=>∃v u,e=.returned (.tuple #[v,u,.int .i64 e1])∧az 0 Q p1 p2 LL v∧az 0 Q p3 p4 LP u∧Below T.heap.size T Q)
  (C2:∀T,Below w.heap.size w T→Calls Tryz.prog 13 #[.agg #[.int .i64 r,.int .i64 c,.slice ao n ax]] T fun e Q=>∃v u,e=.returned (.tuple #[v,u,.int .i64 e2])∧az 0 Q t1 t2 LR v∧az 0 Q t3 t4 LQ u∧Below T.heap.size T Q)
  (C5:∀T,Below w.heap.size w T→Calls Tryz.prog 14 #[.agg #[.int .i64 r,.int .i64 c,.slice ao n ax]] T fun e Q=>e=.returned (.int .i64 g)∧Below T.heap.size T Q)
  (C6:jA r c n=ok)
  (C7:g=0→∀T,Below w.heap.size w T→Calls Tryz.prog 15 #[.agg #[.int .i64 r,.int .i64 c,.slice ao n ax]] T fun e Q=>gy Q k1 c1 c2 c3 c4 m1 bm XQ XR e∧Below T.heap.size T Q)
  (C8:h=0→∀T,Below w.heap.size w T→Calls Tryz.prog 16 #[.agg #[.int .i64 r,.int .i64 c,.slice ao n ax]] T fun e Q=>gy Q k2 d1 bn d3 d4 n1 n2 YQ YR e∧Below T.heap.size T Q)
  (D1:∀w3 lo lc po pc (H I:Int) (o:Option Addr) (m d:Nat) (K L:Int) (M:Option Addr) (N O:Nat) b,ab w3 lo lc (ar LL)→ab w3 po pc (ar LP)→iQ w3 b c1 c2 c3 c4 m1 bm XQ XR H I o m d K L M N O→(b=if g=0 then k1 else false)→Calls Tryz.prog 17 #[.agg #[.int .i64 p1,.int .i64 p2,.slice lo LL.length lc],.agg #[.int .i64 p3,.int .i64 p4,.slice po LP.length pc],.int .i64 e1,.agg #[.int .i64 H,.int .i64 I,.slice o m d,.int .i64 K,.int .i64 L,.slice M N O,.bool b],.int .i64 g] w3 fun e w4=>e=.returned (.bool true)∧Below w3.heap.size w3 w4)
  (D2:∀w3 ro rc qo qc (H I:Int) (o:Option Addr) (m d:Nat) (K L:Int) (M:Option Addr) (N O:Nat) b,ab w3 ro rc (ar LR)→ab w3 qo qc (ar LQ)→iQ w3 b d1 bn d3 d4 n1 n2 YQ YR H I o m d K L M N O→(b=if h=0 then k2 else false)→Calls Tryz.prog 17 #[.agg #[.int .i64 t1,.int .i64 t2,.slice ro LR.length rc],.agg #[.int .i64 t3,.int .i64 t4,.slice qo LQ.length qc],.int .i64 e2,.agg #[.int .i64 H,.int .i64 I,.slice o m d,.int .i64 K,.int .i64 L,.slice M N O,.bool b],.int .i64 h] w3 fun e w4=>e=.returned (.bool true)∧Below w3.heap.size w3 w4)
  (CA:∀T,Below w.heap.size w T→Calls Tryz.prog 10 #[] T fun e Q=>e=.returned (.bool true)∧Below T.heap.size T Q):
  Calls Tryz.prog 4 #[.agg #[.int .i64 r,.int .i64 c,.slice ao n ax]] w fun e T=>e=.returned (.bool true)∧Below w.heap.size w T:=by
 have a9:=aa bo
 have K1:=aa C1;have K2:=aa C2;have K5:=aa C5;have K7:=aa C7;have K8:=aa C8;have T1:=aa D1;have T2:=aa D2;have KA:=aa CA
 have K6:=aa (fun T=>mZ r c ao n ax T)
 rw[C6]at K6
 have b0:=ac w (.cells #[.int .i64 r,.int .i64 c,.slice ao n ax] 24)
 have HA:=aa (au.new w (.int .i64 r) (.int .i64 c) (.slice ao n ax))
 have HB:=aa b0
 clear b0 bo C1 C2 C5 C6 C7 C8 D1 D2 CA
 go_enter Tryz.func4,Tryz.ntmps4
 go_wp2_with fail
 refine(uH K1 _ (uH HB)).mono ?_
 rintro e w1 ⟨v,u,rfl,⟨lo,lc,rfl,_,ql⟩,⟨po,pc,rfl,_,qp⟩,y⟩
 generalize LL.length=nl at*
 generalize LP.length=np at*
 obtain⟨st,G⟩:=DU.start ((uH HB).trans (y.mono (uH HB).size)) ((uH HA).all y) (.int .i64 p1) (.int .i64 p2) (.slice lo nl lc) (.int .i64 p3) (.int .i64 p4) (.slice po np pc)
 have f:=aa st
 have QL:=aa (ql.below G);have QP:=aa (qp.below G)
 clear y HA HB K1 st G ql qp
 have aI:=(uH f).a.c0;have a0:=(uH f).a.c1;have a5:=(uH f).a.c2
 go_wp2_with fail
 clear aI a0 a5
 generalize w1.heap.size=g1 at*
 refine(uH K2 _ (uH f).bel).mono ?_
 rintro e w2 ⟨v,u,rfl,⟨ro,rc,rfl,_,qr⟩,⟨qo,qc,rfl,_,qq⟩,y⟩
 generalize LR.length=nr at*
 generalize LQ.length=nq at*
 have bi:=(uH f).bel.trans (y.mono (uH f).bel.size)
 obtain⟨st,G⟩:=DU.start bi ((uH f).a.all y) (.int .i64 t1) (.int .i64 t2) (.slice ro nr rc) (.int .i64 t3) (.int .i64 t4) (.slice qo nq qc)
 have S2:=aa (show ol w _ g1 w2.heap.size (.int .i64 r) (.int .i64 c) (.slice ao n ax) (.int .i64 p1) (.int .i64 p2) (.slice lo nl lc) (.int .i64 p3) (.int .i64 p4) (.slice po np pc) (.int .i64 t1) (.int .i64 t2) (.slice ro nr rc) (.int .i64 t3) (.int .i64 t4) (.slice qo nq qc)from⟨st.bel,st.a,((uH f).q.all y).all G,((uH f).r.all y).all G,st.q,st.r⟩)
 have z:=aa (show ab _ lo lc (ar LL)∧ab _ po pc (ar LP)∧ab _ ro rc (ar LR)∧ab _ qo qc (ar LQ)from⟨((uH QL).below y).below G,((uH QP).below y).below G,qr.below G,qq.below G⟩)
 replace f:=S2
 clear y K2 st G qr qq S2 bi QL QP
 have aI:=(uH f).a.c0;have a0:=(uH f).a.c1;have a5:=(uH f).a.c2
 go_wp2_with fail
 clear aI a0 a5
 generalize w2.heap.size=g2 at*
 refine(uH K5 _ (uH f).bel).mono ?_
 rintro e w4 ⟨rfl,y⟩
 replace f:=aa ((uH f).all y)
 replace z:=aa (show ab w4 lo lc (ar LL)∧ab w4 po pc (ar LP)∧ab w4 ro rc (ar LR)∧ab w4 qo qc (ar LQ)from⟨(uH z).1.below y,(uH z).2.1.below y,(uH z).2.2.1.below y,(uH z).2.2.2.below y⟩)
 clear y K5
 have aI:=(uH f).a.c0;have a0:=(uH f).a.c1;have a5:=(uH f).a.c2
 go_wp2_with fail
 clear aI a0 a5
 refine(uH K6 _).mono ?_
 rintro e F ⟨rfl,y⟩
 replace f:=aa ((uH f).all y)
 replace z:=aa (show ab F lo lc (ar LL)∧ab F po pc (ar LP)∧ab F ro rc (ar LR)∧ab F qo qc (ar LQ)from⟨(uH z).1.below y,(uH z).2.1.below y,(uH z).2.2.1.below y,(uH z).2.2.2.below y⟩)
 clear y K6
 have bp:=(uH f).a.c0;have bq:=(uH f).a.c1
 rcases uH a9 with⟨rfl,rfl,rfl⟩|⟨rfl,bj,rfl,rfl⟩|⟨rfl,bj,rfl,rfl⟩|⟨rfl,bj,rfl,rfl⟩|⟨rfl,bj,rfl,rfl⟩
 ·clear a9
  have a6:=aa (show w.heap.size≤F.heap.size from(uH f).bel.size)
  have ba:=ac F (.cells #[.int .i64 0,.int .i64 0,.slice none 0 0,.int .i64 0,.int .i64 0,.slice none 0 0,.bool false] 40)
  have zb:=ai F (.cells #[.int .i64 0,.int .i64 0,.slice none 0 0,.int .i64 0,.int .i64 0,.slice none 0 0,.bool false] 40)
  have bb:=ac (F.alloc (.cells #[.int .i64 0,.int .i64 0,.slice none 0 0,.int .i64 0,.int .i64 0,.slice none 0 0,.bool false] 40)) (.cells #[.int .i64 0,.int .i64 0,.slice none 0 0,.int .i64 0,.int .i64 0,.slice none 0 0,.bool false] 40)
  have xu:=bw.new F (.int .i64 0) (.int .i64 0) (.slice none 0 0) (.int .i64 0) (.int .i64 0) (.slice none 0 0) (.bool false)
  have xv:=bw.new (F.alloc (.cells #[.int .i64 0,.int .i64 0,.slice none 0 0,.int .i64 0,.int .i64 0,.slice none 0 0,.bool false] 40)) (.int .i64 0) (.int .i64 0) (.slice none 0 0) (.int .i64 0) (.int .i64 0) (.slice none 0 0) (.bool false)
  rw[zb]at xv
  have G:=ba.trans (bb.mono ba.size)
  replace f:=aa ((uH f).all G)
  replace z:=aa (show ab ((F.alloc (.cells #[.int .i64 0,.int .i64 0,.slice none 0 0,.int .i64 0,.int .i64 0,.slice none 0 0,.bool false] 40)).alloc (.cells #[.int .i64 0,.int .i64 0,.slice none 0 0,.int .i64 0,.int .i64 0,.slice none 0 0,.bool false] 40)) lo lc (ar LL)∧ab ((F.alloc (.cells #[.int .i64 0,.int .i64 0,.slice none 0 0,.int .i64 0,.int .i64 0,.slice none 0 0,.bool false] 40)).alloc (.cells #[.int .i64 0,.int .i64 0,.slice none 0 0,.int .i64 0,.int .i64 0,.slice none 0 0,.bool false] 40)) po pc (ar LP)∧ab ((F.alloc (.cells #[.int .i64 0,.int .i64 0,.slice none 0 0,.int .i64 0,.int .i64 0,.slice none 0 0,.bool false] 40)).alloc (.cells #[.int .i64 0,.int .i64 0,.slice none 0 0,.int .i64 0,.int .i64 0,.slice none 0 0,.bool false] 40)) ro rc (ar LR)∧ab ((F.alloc (.cells #[.int .i64 0,.int .i64 0,.slice none 0 0,.int .i64 0,.int .i64 0,.slice none 0 0,.bool false] 40)).alloc (.cells #[.int .i64 0,.int .i64 0,.slice none 0 0,.int .i64 0,.int .i64 0,.slice none 0 0,.bool false] 40)) qo qc (ar LQ)from⟨(uH z).1.below G,(uH z).2.1.below G,(uH z).2.2.1.below G,(uH z).2.2.2.below G⟩)
  have A:=aa (xu.all bb);have D:=aa xv
  clear ba zb bb xu xv G
  clear K7 K8 a6
  have l0:=(uH f).l.c0;have l1:=(uH f).l.c1;have l2:=(uH f).l.c2;have p0:=(uH f).p.c0;have p1:=(uH f).p.c1;have p2:=(uH f).p.c2;have u0:=(uH A).c0;have u1:=(uH A).c1;have u2:=(uH A).c2;have u3:=(uH A).c3;have u4:=(uH A).c4;have u5:=(uH A).c5;have u6:=(uH A).c6
  go_wp2_with fail
  refine Calls.mono (uH T1 _ _ _ _ _ _ _ _ _ _ _ _ _ _ _ _ (uH z).1 (uH z).2.1 (fun e=>by cases e) (by first|rfl|simp)) ?_
  rintro e w8 ⟨rfl,y⟩
  replace f:=aa ((uH f).all y)
  replace A:=aa ((uH A).all y);replace D:=aa ((uH D).all y)
  replace z:=aa (show ab w8 lo lc (ar LL)∧ab w8 po pc (ar LP)∧ab w8 ro rc (ar LR)∧ab w8 qo qc (ar LQ)from⟨(uH z).1.below y,(uH z).2.1.below y,(uH z).2.2.1.below y,(uH z).2.2.2.below y⟩)
  clear y l0 l1 l2 p0 p1 p2 u0 u1 u2 u3 u4 u5 u6
  have l0:=(uH f).r.c0;have l1:=(uH f).r.c1;have l2:=(uH f).r.c2;have p0:=(uH f).q.c0;have p1:=(uH f).q.c1;have p2:=(uH f).q.c2;have u0:=(uH D).c0;have u1:=(uH D).c1;have u2:=(uH D).c2;have u3:=(uH D).c3;have u4:=(uH D).c4;have u5:=(uH D).c5;have u6:=(uH D).c6
  go_wp2_with fail
  refine Calls.mono (uH T2 _ _ _ _ _ _ _ _ _ _ _ _ _ _ _ _ (uH z).2.2.1 (uH z).2.2.2 (fun e=>by cases e) (by first|rfl|simp)) ?_
  rintro e w9 ⟨rfl,y⟩
  have BE:=aa ((uH f).bel.trans (y.mono (uH f).bel.size))
  clear y f A D z l0 l1 l2 p0 p1 p2 u0 u1 u2 u3 u4 u5 u6
  go_wp2_with fail
  refine(uH KA _ (uH BE)).mono ?_
  rintro e be ⟨rfl,y⟩
  replace BE:=aa ((uH BE).trans (y.mono (uH BE).size))
  clear y
  go_wp2
  go_ret
  exact⟨rfl,uH BE⟩
 ·clear a9
  have a6:=aa (show w.heap.size≤F.heap.size from(uH f).bel.size)
  have ba:=ac F (.cells #[.int .i64 0,.int .i64 0,.slice none 0 0,.int .i64 0,.int .i64 0,.slice none 0 0,.bool false] 40)
  have zb:=ai F (.cells #[.int .i64 0,.int .i64 0,.slice none 0 0,.int .i64 0,.int .i64 0,.slice none 0 0,.bool false] 40)
  have bb:=ac (F.alloc (.cells #[.int .i64 0,.int .i64 0,.slice none 0 0,.int .i64 0,.int .i64 0,.slice none 0 0,.bool false] 40)) (.cells #[.int .i64 0,.int .i64 0,.slice none 0 0,.int .i64 0,.int .i64 0,.slice none 0 0,.bool false] 40)
  have xu:=bw.new F (.int .i64 0) (.int .i64 0) (.slice none 0 0) (.int .i64 0) (.int .i64 0) (.slice none 0 0) (.bool false)
  have xv:=bw.new (F.alloc (.cells #[.int .i64 0,.int .i64 0,.slice none 0 0,.int .i64 0,.int .i64 0,.slice none 0 0,.bool false] 40)) (.int .i64 0) (.int .i64 0) (.slice none 0 0) (.int .i64 0) (.int .i64 0) (.slice none 0 0) (.bool false)
  rw[zb]at xv
  have G:=ba.trans (bb.mono ba.size)
  replace f:=aa ((uH f).all G)
  replace z:=aa (show ab ((F.alloc (.cells #[.int .i64 0,.int .i64 0,.slice none 0 0,.int .i64 0,.int .i64 0,.slice none 0 0,.bool false] 40)).alloc (.cells #[.int .i64 0,.int .i64 0,.slice none 0 0,.int .i64 0,.int .i64 0,.slice none 0 0,.bool false] 40)) lo lc (ar LL)∧ab ((F.alloc (.cells #[.int .i64 0,.int .i64 0,.slice none 0 0,.int .i64 0,.int .i64 0,.slice none 0 0,.bool false] 40)).alloc (.cells #[.int .i64 0,.int .i64 0,.slice none 0 0,.int .i64 0,.int .i64 0,.slice none 0 0,.bool false] 40)) po pc (ar LP)∧ab ((F.alloc (.cells #[.int .i64 0,.int .i64 0,.slice none 0 0,.int .i64 0,.int .i64 0,.slice none 0 0,.bool false] 40)).alloc (.cells #[.int .i64 0,.int .i64 0,.slice none 0 0,.int .i64 0,.int .i64 0,.slice none 0 0,.bool false] 40)) ro rc (ar LR)∧ab ((F.alloc (.cells #[.int .i64 0,.int .i64 0,.slice none 0 0,.int .i64 0,.int .i64 0,.slice none 0 0,.bool false] 40)).alloc (.cells #[.int .i64 0,.int .i64 0,.slice none 0 0,.int .i64 0,.int .i64 0,.slice none 0 0,.bool false] 40)) qo qc (ar LQ)from⟨(uH z).1.below G,(uH z).2.1.below G,(uH z).2.2.1.below G,(uH z).2.2.2.below G⟩)
  have A:=aa (xu.all bb);have D:=aa xv
  clear ba zb bb xu xv G
  clear K7 K8 a6
  have l0:=(uH f).l.c0;have l1:=(uH f).l.c1;have l2:=(uH f).l.c2;have p0:=(uH f).p.c0;have p1:=(uH f).p.c1;have p2:=(uH f).p.c2;have u0:=(uH A).c0;have u1:=(uH A).c1;have u2:=(uH A).c2;have u3:=(uH A).c3;have u4:=(uH A).c4;have u5:=(uH A).c5;have u6:=(uH A).c6
  go_wp2_with fail
  refine Calls.mono (uH T1 _ _ _ _ _ _ _ _ _ _ _ _ _ _ _ _ (uH z).1 (uH z).2.1 (fun e=>by cases e) (by first|rfl|simp)) ?_
  rintro e w8 ⟨rfl,y⟩
  replace f:=aa ((uH f).all y)
  replace A:=aa ((uH A).all y);replace D:=aa ((uH D).all y)
  replace z:=aa (show ab w8 lo lc (ar LL)∧ab w8 po pc (ar LP)∧ab w8 ro rc (ar LR)∧ab w8 qo qc (ar LQ)from⟨(uH z).1.below y,(uH z).2.1.below y,(uH z).2.2.1.below y,(uH z).2.2.2.below y⟩)
  clear y l0 l1 l2 p0 p1 p2 u0 u1 u2 u3 u4 u5 u6
  have l0:=(uH f).r.c0;have l1:=(uH f).r.c1;have l2:=(uH f).r.c2;have p0:=(uH f).q.c0;have p1:=(uH f).q.c1;have p2:=(uH f).q.c2;have u0:=(uH D).c0;have u1:=(uH D).c1;have u2:=(uH D).c2;have u3:=(uH D).c3;have u4:=(uH D).c4;have u5:=(uH D).c5;have u6:=(uH D).c6
  go_wp2_with fail
  refine Calls.mono (uH T2 _ _ _ _ _ _ _ _ _ _ _ _ _ _ _ _ (uH z).2.2.1 (uH z).2.2.2 (fun e=>by cases e) (by first|rfl|simp)) ?_
  rintro e w9 ⟨rfl,y⟩
  have BE:=aa ((uH f).bel.trans (y.mono (uH f).bel.size))
  clear y f A D z l0 l1 l2 p0 p1 p2 u0 u1 u2 u3 u4 u5 u6
  go_wp2_with fail
  refine(uH KA _ (uH BE)).mono ?_
  rintro e be ⟨rfl,y⟩
  replace BE:=aa ((uH BE).trans (y.mono (uH BE).size))
  clear y
  go_wp2
  go_ret
  exact⟨rfl,uH BE⟩
 ·clear a9
  have a6:=aa (show w.heap.size≤F.heap.size from(uH f).bel.size)
  have ba:=ac F (.cells #[.int .i64 0,.int .i64 0,.slice none 0 0,.int .i64 0,.int .i64 0,.slice none 0 0,.bool false] 40)
  have zb:=ai F (.cells #[.int .i64 0,.int .i64 0,.slice none 0 0,.int .i64 0,.int .i64 0,.slice none 0 0,.bool false] 40)
  have bb:=ac (F.alloc (.cells #[.int .i64 0,.int .i64 0,.slice none 0 0,.int .i64 0,.int .i64 0,.slice none 0 0,.bool false] 40)) (.cells #[.int .i64 0,.int .i64 0,.slice none 0 0,.int .i64 0,.int .i64 0,.slice none 0 0,.bool false] 40)
  have xu:=bw.new F (.int .i64 0) (.int .i64 0) (.slice none 0 0) (.int .i64 0) (.int .i64 0) (.slice none 0 0) (.bool false)
  have xv:=bw.new (F.alloc (.cells #[.int .i64 0,.int .i64 0,.slice none 0 0,.int .i64 0,.int .i64 0,.slice none 0 0,.bool false] 40)) (.int .i64 0) (.int .i64 0) (.slice none 0 0) (.int .i64 0) (.int .i64 0) (.slice none 0 0) (.bool false)
  rw[zb]at xv
  have G:=ba.trans (bb.mono ba.size)
  replace f:=aa ((uH f).all G)
  replace z:=aa (show ab ((F.alloc (.cells #[.int .i64 0,.int .i64 0,.slice none 0 0,.int .i64 0,.int .i64 0,.slice none 0 0,.bool false] 40)).alloc (.cells #[.int .i64 0,.int .i64 0,.slice none 0 0,.int .i64 0,.int .i64 0,.slice none 0 0,.bool false] 40)) lo lc (ar LL)∧ab ((F.alloc (.cells #[.int .i64 0,.int .i64 0,.slice none 0 0,.int .i64 0,.int .i64 0,.slice none 0 0,.bool false] 40)).alloc (.cells #[.int .i64 0,.int .i64 0,.slice none 0 0,.int .i64 0,.int .i64 0,.slice none 0 0,.bool false] 40)) po pc (ar LP)∧ab ((F.alloc (.cells #[.int .i64 0,.int .i64 0,.slice none 0 0,.int .i64 0,.int .i64 0,.slice none 0 0,.bool false] 40)).alloc (.cells #[.int .i64 0,.int .i64 0,.slice none 0 0,.int .i64 0,.int .i64 0,.slice none 0 0,.bool false] 40)) ro rc (ar LR)∧ab ((F.alloc (.cells #[.int .i64 0,.int .i64 0,.slice none 0 0,.int .i64 0,.int .i64 0,.slice none 0 0,.bool false] 40)).alloc (.cells #[.int .i64 0,.int .i64 0,.slice none 0 0,.int .i64 0,.int .i64 0,.slice none 0 0,.bool false] 40)) qo qc (ar LQ)from⟨(uH z).1.below G,(uH z).2.1.below G,(uH z).2.2.1.below G,(uH z).2.2.2.below G⟩)
  have A:=aa (xu.all bb);have D:=aa xv
  clear ba zb bb xu xv G
  clear K7 K8 a6
  have l0:=(uH f).l.c0;have l1:=(uH f).l.c1;have l2:=(uH f).l.c2;have p0:=(uH f).p.c0;have p1:=(uH f).p.c1;have p2:=(uH f).p.c2;have u0:=(uH A).c0;have u1:=(uH A).c1;have u2:=(uH A).c2;have u3:=(uH A).c3;have u4:=(uH A).c4;have u5:=(uH A).c5;have u6:=(uH A).c6
  go_wp2_with fail
  refine Calls.mono (uH T1 _ _ _ _ _ _ _ _ _ _ _ _ _ _ _ _ (uH z).1 (uH z).2.1 (fun e=>by cases e) (by first|rfl|simp)) ?_
  rintro e w8 ⟨rfl,y⟩
  replace f:=aa ((uH f).all y)
  replace A:=aa ((uH A).all y);replace D:=aa ((uH D).all y)
  replace z:=aa (show ab w8 lo lc (ar LL)∧ab w8 po pc (ar LP)∧ab w8 ro rc (ar LR)∧ab w8 qo qc (ar LQ)from⟨(uH z).1.below y,(uH z).2.1.below y,(uH z).2.2.1.below y,(uH z).2.2.2.below y⟩)
  clear y l0 l1 l2 p0 p1 p2 u0 u1 u2 u3 u4 u5 u6
  have l0:=(uH f).r.c0;have l1:=(uH f).r.c1;have l2:=(uH f).r.c2;have p0:=(uH f).q.c0;have p1:=(uH f).q.c1;have p2:=(uH f).q.c2;have u0:=(uH D).c0;have u1:=(uH D).c1;have u2:=(uH D).c2;have u3:=(uH D).c3;have u4:=(uH D).c4;have u5:=(uH D).c5;have u6:=(uH D).c6
  go_wp2_with fail
  refine Calls.mono (uH T2 _ _ _ _ _ _ _ _ _ _ _ _ _ _ _ _ (uH z).2.2.1 (uH z).2.2.2 (fun e=>by cases e) (by first|rfl|simp)) ?_
  rintro e w9 ⟨rfl,y⟩
  have BE:=aa ((uH f).bel.trans (y.mono (uH f).bel.size))
  clear y f A D z l0 l1 l2 p0 p1 p2 u0 u1 u2 u3 u4 u5 u6
  go_wp2_with fail
  refine(uH KA _ (uH BE)).mono ?_
  rintro e be ⟨rfl,y⟩
  replace BE:=aa ((uH BE).trans (y.mono (uH BE).size))
  clear y
  go_wp2
  go_ret
  exact⟨rfl,uH BE⟩
 ·clear a9
  have a6:=aa (show w.heap.size≤F.heap.size from(uH f).bel.size)
  have ba:=ac F (.cells #[.int .i64 0,.int .i64 0,.slice none 0 0,.int .i64 0,.int .i64 0,.slice none 0 0,.bool false] 40)
  have zb:=ai F (.cells #[.int .i64 0,.int .i64 0,.slice none 0 0,.int .i64 0,.int .i64 0,.slice none 0 0,.bool false] 40)
  have bb:=ac (F.alloc (.cells #[.int .i64 0,.int .i64 0,.slice none 0 0,.int .i64 0,.int .i64 0,.slice none 0 0,.bool false] 40)) (.cells #[.int .i64 0,.int .i64 0,.slice none 0 0,.int .i64 0,.int .i64 0,.slice none 0 0,.bool false] 40)
  have xu:=bw.new F (.int .i64 0) (.int .i64 0) (.slice none 0 0) (.int .i64 0) (.int .i64 0) (.slice none 0 0) (.bool false)
  have xv:=bw.new (F.alloc (.cells #[.int .i64 0,.int .i64 0,.slice none 0 0,.int .i64 0,.int .i64 0,.slice none 0 0,.bool false] 40)) (.int .i64 0) (.int .i64 0) (.slice none 0 0) (.int .i64 0) (.int .i64 0) (.slice none 0 0) (.bool false)
  rw[zb]at xv
  have G:=ba.trans (bb.mono ba.size)
  replace f:=aa ((uH f).all G)
  replace z:=aa (show ab ((F.alloc (.cells #[.int .i64 0,.int .i64 0,.slice none 0 0,.int .i64 0,.int .i64 0,.slice none 0 0,.bool false] 40)).alloc (.cells #[.int .i64 0,.int .i64 0,.slice none 0 0,.int .i64 0,.int .i64 0,.slice none 0 0,.bool false] 40)) lo lc (ar LL)∧ab ((F.alloc (.cells #[.int .i64 0,.int .i64 0,.slice none 0 0,.int .i64 0,.int .i64 0,.slice none 0 0,.bool false] 40)).alloc (.cells #[.int .i64 0,.int .i64 0,.slice none 0 0,.int .i64 0,.int .i64 0,.slice none 0 0,.bool false] 40)) po pc (ar LP)∧ab ((F.alloc (.cells #[.int .i64 0,.int .i64 0,.slice none 0 0,.int .i64 0,.int .i64 0,.slice none 0 0,.bool false] 40)).alloc (.cells #[.int .i64 0,.int .i64 0,.slice none 0 0,.int .i64 0,.int .i64 0,.slice none 0 0,.bool false] 40)) ro rc (ar LR)∧ab ((F.alloc (.cells #[.int .i64 0,.int .i64 0,.slice none 0 0,.int .i64 0,.int .i64 0,.slice none 0 0,.bool false] 40)).alloc (.cells #[.int .i64 0,.int .i64 0,.slice none 0 0,.int .i64 0,.int .i64 0,.slice none 0 0,.bool false] 40)) qo qc (ar LQ)from⟨(uH z).1.below G,(uH z).2.1.below G,(uH z).2.2.1.below G,(uH z).2.2.2.below G⟩)
  have A:=aa (xu.all bb);have D:=aa xv
  clear ba zb bb xu xv G
  have aI:=(uH f).a.c0;have a0:=(uH f).a.c1;have a5:=(uH f).a.c2
  have G7:=aa (uH K7 (by first|rfl|trivial))
  clear K7 K8
  go_wp2_with fail
  generalize F.heap.size=t at*
  refine(uH G7 _ (uH f).bel).mono ?_
  rintro e U ⟨a7,y⟩
  obtain⟨H,I,o,m,d,K,L,M,N,O,rfl,hf⟩:=a7.shape
  replace f:=aa ((uH f).all y)
  replace A:=aa ((uH A).all y);replace D:=aa ((uH D).all y)
  replace z:=aa (show ab U lo lc (ar LL)∧ab U po pc (ar LP)∧ab U ro rc (ar LR)∧ab U qo qc (ar LQ)from⟨(uH z).1.below y,(uH z).2.1.below y,(uH z).2.2.1.below y,(uH z).2.2.2.below y⟩)
  clear y a7 aI a0 a5
  have X:=uH A
  have x0:=X.c0;have x1:=X.c1;have x2:=X.c2;have x3:=X.c3;have x4:=X.c4;have x5:=X.c5;have x6:=X.c6
  have f0:=X.free 0;have f1:=X.free 1;have f2:=X.free 2;have f3:=X.free 3;have f4:=X.free 4;have f5:=X.free 5;have f6:=X.free 6
  generalize k1=b at*
  have N1:=aa (show ol w (((((((U.setCell ⟨t,0,none⟩ (.int .i64 H)).setCell ⟨t,1,none⟩ (.int .i64 I)).setCell ⟨t,2,none⟩ (.slice o m d)).setCell ⟨t,3,none⟩ (.int .i64 K)).setCell ⟨t,4,none⟩ (.int .i64 L)).setCell ⟨t,5,none⟩ (.slice M N O)).setCell ⟨t,6,none⟩ (.bool b)) g1 g2 (.int .i64 r) (.int .i64 c) (.slice ao n ax) (.int .i64 p1) (.int .i64 p2) (.slice lo nl lc) (.int .i64 p3) (.int .i64 p4) (.slice po np pc) (.int .i64 t1) (.int .i64 t2) (.slice ro nr rc) (.int .i64 t3) (.int .i64 t4) (.slice qo nq qc)from(uH f).putW X (by have:=uH a6;omega) (.int .i64 H) (.int .i64 I) (.slice o m d) (.int .i64 K) (.int .i64 L) (.slice M N O) (.bool b))
  have N2:=aa (X.put (.int .i64 H) (.int .i64 I) (.slice o m d) (.int .i64 K) (.int .i64 L) (.slice M N O) (.bool b))
  have N3:=aa (show bw (((((((U.setCell ⟨t,0,none⟩ (.int .i64 H)).setCell ⟨t,1,none⟩ (.int .i64 I)).setCell ⟨t,2,none⟩ (.slice o m d)).setCell ⟨t,3,none⟩ (.int .i64 K)).setCell ⟨t,4,none⟩ (.int .i64 L)).setCell ⟨t,5,none⟩ (.slice M N O)).setCell ⟨t,6,none⟩ (.bool b)) (t+1) (.int .i64 0) (.int .i64 0) (.slice none 0 0) (.int .i64 0) (.int .i64 0) (.slice none 0 0) (.bool false)from(uH D).seven (by omega) (.int .i64 H) (.int .i64 I) (.slice o m d) (.int .i64 K) (.int .i64 L) (.slice M N O) (.bool b))
  have N4:=aa (show(ab (((((((U.setCell ⟨t,0,none⟩ (.int .i64 H)).setCell ⟨t,1,none⟩ (.int .i64 I)).setCell ⟨t,2,none⟩ (.slice o m d)).setCell ⟨t,3,none⟩ (.int .i64 K)).setCell ⟨t,4,none⟩ (.int .i64 L)).setCell ⟨t,5,none⟩ (.slice M N O)).setCell ⟨t,6,none⟩ (.bool b)) lo lc (ar LL)∧ab (((((((U.setCell ⟨t,0,none⟩ (.int .i64 H)).setCell ⟨t,1,none⟩ (.int .i64 I)).setCell ⟨t,2,none⟩ (.slice o m d)).setCell ⟨t,3,none⟩ (.int .i64 K)).setCell ⟨t,4,none⟩ (.int .i64 L)).setCell ⟨t,5,none⟩ (.slice M N O)).setCell ⟨t,6,none⟩ (.bool b)) po pc (ar LP)∧ab (((((((U.setCell ⟨t,0,none⟩ (.int .i64 H)).setCell ⟨t,1,none⟩ (.int .i64 I)).setCell ⟨t,2,none⟩ (.slice o m d)).setCell ⟨t,3,none⟩ (.int .i64 K)).setCell ⟨t,4,none⟩ (.int .i64 L)).setCell ⟨t,5,none⟩ (.slice M N O)).setCell ⟨t,6,none⟩ (.bool b)) ro rc (ar LR)∧ab (((((((U.setCell ⟨t,0,none⟩ (.int .i64 H)).setCell ⟨t,1,none⟩ (.int .i64 I)).setCell ⟨t,2,none⟩ (.slice o m d)).setCell ⟨t,3,none⟩ (.int .i64 K)).setCell ⟨t,4,none⟩ (.int .i64 L)).setCell ⟨t,5,none⟩ (.slice M N O)).setCell ⟨t,6,none⟩ (.bool b)) qo qc (ar LQ))from⟨bg (uH z).1 X (.int .i64 H) (.int .i64 I) (.slice o m d) (.int .i64 K) (.int .i64 L) (.slice M N O) (.bool b),bg (uH z).2.1 X (.int .i64 H) (.int .i64 I) (.slice o m d) (.int .i64 K) (.int .i64 L) (.slice M N O) (.bool b),bg (uH z).2.2.1 X (.int .i64 H) (.int .i64 I) (.slice o m d) (.int .i64 K) (.int .i64 L) (.slice M N O) (.bool b),bg (uH z).2.2.2 X (.int .i64 H) (.int .i64 I) (.slice o m d) (.int .i64 K) (.int .i64 L) (.slice M N O) (.bool b)⟩)
  have N5:=aa (iQ.putW hf X (.int .i64 H) (.int .i64 I) (.slice o m d) (.int .i64 K) (.int .i64 L) (.slice M N O) (.bool b))
  clear f A D z hf X G7
  have f:=N1;have A:=N2;have D:=N3;have z:=N4;have F1:=N5
  clear N1 N2 N3 N4 N5
  have l0:=(uH f).l.c0;have l1:=(uH f).l.c1;have l2:=(uH f).l.c2;have p0:=(uH f).p.c0;have p1:=(uH f).p.c1;have p2:=(uH f).p.c2;have u0:=(uH A).c0;have u1:=(uH A).c1;have u2:=(uH A).c2;have u3:=(uH A).c3;have u4:=(uH A).c4;have u5:=(uH A).c5;have u6:=(uH A).c6
  go_wp2_with fail
  clear x0 x1 x2 x3 x4 x5 x6 f0 f1 f2 f3 f4 f5 f6
  refine Calls.mono (uH T1 _ _ _ _ _ _ _ _ _ _ _ _ _ _ _ _ (uH z).1 (uH z).2.1 (uH F1) (by first|rfl|simp)) ?_
  rintro e w8 ⟨rfl,y⟩
  replace f:=aa ((uH f).all y)
  replace A:=aa ((uH A).all y);replace D:=aa ((uH D).all y)
  replace z:=aa (show ab w8 lo lc (ar LL)∧ab w8 po pc (ar LP)∧ab w8 ro rc (ar LR)∧ab w8 qo qc (ar LQ)from⟨(uH z).1.below y,(uH z).2.1.below y,(uH z).2.2.1.below y,(uH z).2.2.2.below y⟩)
  clear y l0 l1 l2 p0 p1 p2 u0 u1 u2 u3 u4 u5 u6
  have l0:=(uH f).r.c0;have l1:=(uH f).r.c1;have l2:=(uH f).r.c2;have p0:=(uH f).q.c0;have p1:=(uH f).q.c1;have p2:=(uH f).q.c2;have u0:=(uH D).c0;have u1:=(uH D).c1;have u2:=(uH D).c2;have u3:=(uH D).c3;have u4:=(uH D).c4;have u5:=(uH D).c5;have u6:=(uH D).c6
  go_wp2_with fail
  refine Calls.mono (uH T2 _ _ _ _ _ _ _ _ _ _ _ _ _ _ _ _ (uH z).2.2.1 (uH z).2.2.2 (fun e=>by cases e) (by first|rfl|simp)) ?_
  rintro e w9 ⟨rfl,y⟩
  have BE:=aa ((uH f).bel.trans (y.mono (uH f).bel.size))
  clear y f A D z l0 l1 l2 p0 p1 p2 u0 u1 u2 u3 u4 u5 u6
  go_wp2_with fail
  refine(uH KA _ (uH BE)).mono ?_
  rintro e be ⟨rfl,y⟩
  replace BE:=aa ((uH BE).trans (y.mono (uH BE).size))
  clear y
  go_wp2
  go_ret
  exact⟨rfl,uH BE⟩
 ·clear a9
  have a6:=aa (show w.heap.size≤F.heap.size from(uH f).bel.size)
  have ba:=ac F (.cells #[.int .i64 0,.int .i64 0,.slice none 0 0,.int .i64 0,.int .i64 0,.slice none 0 0,.bool false] 40)
  have zb:=ai F (.cells #[.int .i64 0,.int .i64 0,.slice none 0 0,.int .i64 0,.int .i64 0,.slice none 0 0,.bool false] 40)
  have bb:=ac (F.alloc (.cells #[.int .i64 0,.int .i64 0,.slice none 0 0,.int .i64 0,.int .i64 0,.slice none 0 0,.bool false] 40)) (.cells #[.int .i64 0,.int .i64 0,.slice none 0 0,.int .i64 0,.int .i64 0,.slice none 0 0,.bool false] 40)
  have xu:=bw.new F (.int .i64 0) (.int .i64 0) (.slice none 0 0) (.int .i64 0) (.int .i64 0) (.slice none 0 0) (.bool false)
  have xv:=bw.new (F.alloc (.cells #[.int .i64 0,.int .i64 0,.slice none 0 0,.int .i64 0,.int .i64 0,.slice none 0 0,.bool false] 40)) (.int .i64 0) (.int .i64 0) (.slice none 0 0) (.int .i64 0) (.int .i64 0) (.slice none 0 0) (.bool false)
  rw[zb]at xv
  have G:=ba.trans (bb.mono ba.size)
  replace f:=aa ((uH f).all G)
  replace z:=aa (show ab ((F.alloc (.cells #[.int .i64 0,.int .i64 0,.slice none 0 0,.int .i64 0,.int .i64 0,.slice none 0 0,.bool false] 40)).alloc (.cells #[.int .i64 0,.int .i64 0,.slice none 0 0,.int .i64 0,.int .i64 0,.slice none 0 0,.bool false] 40)) lo lc (ar LL)∧ab ((F.alloc (.cells #[.int .i64 0,.int .i64 0,.slice none 0 0,.int .i64 0,.int .i64 0,.slice none 0 0,.bool false] 40)).alloc (.cells #[.int .i64 0,.int .i64 0,.slice none 0 0,.int .i64 0,.int .i64 0,.slice none 0 0,.bool false] 40)) po pc (ar LP)∧ab ((F.alloc (.cells #[.int .i64 0,.int .i64 0,.slice none 0 0,.int .i64 0,.int .i64 0,.slice none 0 0,.bool false] 40)).alloc (.cells #[.int .i64 0,.int .i64 0,.slice none 0 0,.int .i64 0,.int .i64 0,.slice none 0 0,.bool false] 40)) ro rc (ar LR)∧ab ((F.alloc (.cells #[.int .i64 0,.int .i64 0,.slice none 0 0,.int .i64 0,.int .i64 0,.slice none 0 0,.bool false] 40)).alloc (.cells #[.int .i64 0,.int .i64 0,.slice none 0 0,.int .i64 0,.int .i64 0,.slice none 0 0,.bool false] 40)) qo qc (ar LQ)from⟨(uH z).1.below G,(uH z).2.1.below G,(uH z).2.2.1.below G,(uH z).2.2.2.below G⟩)
  have A:=aa (xu.all bb);have D:=aa xv
  clear ba zb bb xu xv G
  have aI:=(uH f).a.c0;have a0:=(uH f).a.c1;have a5:=(uH f).a.c2
  have G7:=aa (uH K7 (by first|rfl|trivial));have G8:=aa (uH K8 (by first|rfl|trivial))
  clear K7 K8
  go_wp2_with fail
  generalize F.heap.size=t at*
  refine(uH G7 _ (uH f).bel).mono ?_
  rintro e U ⟨a7,y⟩
  obtain⟨H,I,o,m,d,K,L,M,N,O,rfl,hf⟩:=a7.shape
  replace f:=aa ((uH f).all y)
  replace A:=aa ((uH A).all y);replace D:=aa ((uH D).all y)
  replace z:=aa (show ab U lo lc (ar LL)∧ab U po pc (ar LP)∧ab U ro rc (ar LR)∧ab U qo qc (ar LQ)from⟨(uH z).1.below y,(uH z).2.1.below y,(uH z).2.2.1.below y,(uH z).2.2.2.below y⟩)
  clear y a7 aI a0 a5
  have X:=uH A
  have x0:=X.c0;have x1:=X.c1;have x2:=X.c2;have x3:=X.c3;have x4:=X.c4;have x5:=X.c5;have x6:=X.c6
  have f0:=X.free 0;have f1:=X.free 1;have f2:=X.free 2;have f3:=X.free 3;have f4:=X.free 4;have f5:=X.free 5;have f6:=X.free 6
  generalize k1=b at*
  have N1:=aa (show ol w (((((((U.setCell ⟨t,0,none⟩ (.int .i64 H)).setCell ⟨t,1,none⟩ (.int .i64 I)).setCell ⟨t,2,none⟩ (.slice o m d)).setCell ⟨t,3,none⟩ (.int .i64 K)).setCell ⟨t,4,none⟩ (.int .i64 L)).setCell ⟨t,5,none⟩ (.slice M N O)).setCell ⟨t,6,none⟩ (.bool b)) g1 g2 (.int .i64 r) (.int .i64 c) (.slice ao n ax) (.int .i64 p1) (.int .i64 p2) (.slice lo nl lc) (.int .i64 p3) (.int .i64 p4) (.slice po np pc) (.int .i64 t1) (.int .i64 t2) (.slice ro nr rc) (.int .i64 t3) (.int .i64 t4) (.slice qo nq qc)from(uH f).putW X (by have:=uH a6;omega) (.int .i64 H) (.int .i64 I) (.slice o m d) (.int .i64 K) (.int .i64 L) (.slice M N O) (.bool b))
  have N2:=aa (X.put (.int .i64 H) (.int .i64 I) (.slice o m d) (.int .i64 K) (.int .i64 L) (.slice M N O) (.bool b))
  have N3:=aa (show bw (((((((U.setCell ⟨t,0,none⟩ (.int .i64 H)).setCell ⟨t,1,none⟩ (.int .i64 I)).setCell ⟨t,2,none⟩ (.slice o m d)).setCell ⟨t,3,none⟩ (.int .i64 K)).setCell ⟨t,4,none⟩ (.int .i64 L)).setCell ⟨t,5,none⟩ (.slice M N O)).setCell ⟨t,6,none⟩ (.bool b)) (t+1) (.int .i64 0) (.int .i64 0) (.slice none 0 0) (.int .i64 0) (.int .i64 0) (.slice none 0 0) (.bool false)from(uH D).seven (by omega) (.int .i64 H) (.int .i64 I) (.slice o m d) (.int .i64 K) (.int .i64 L) (.slice M N O) (.bool b))
  have N4:=aa (show(ab (((((((U.setCell ⟨t,0,none⟩ (.int .i64 H)).setCell ⟨t,1,none⟩ (.int .i64 I)).setCell ⟨t,2,none⟩ (.slice o m d)).setCell ⟨t,3,none⟩ (.int .i64 K)).setCell ⟨t,4,none⟩ (.int .i64 L)).setCell ⟨t,5,none⟩ (.slice M N O)).setCell ⟨t,6,none⟩ (.bool b)) lo lc (ar LL)∧ab (((((((U.setCell ⟨t,0,none⟩ (.int .i64 H)).setCell ⟨t,1,none⟩ (.int .i64 I)).setCell ⟨t,2,none⟩ (.slice o m d)).setCell ⟨t,3,none⟩ (.int .i64 K)).setCell ⟨t,4,none⟩ (.int .i64 L)).setCell ⟨t,5,none⟩ (.slice M N O)).setCell ⟨t,6,none⟩ (.bool b)) po pc (ar LP)∧ab (((((((U.setCell ⟨t,0,none⟩ (.int .i64 H)).setCell ⟨t,1,none⟩ (.int .i64 I)).setCell ⟨t,2,none⟩ (.slice o m d)).setCell ⟨t,3,none⟩ (.int .i64 K)).setCell ⟨t,4,none⟩ (.int .i64 L)).setCell ⟨t,5,none⟩ (.slice M N O)).setCell ⟨t,6,none⟩ (.bool b)) ro rc (ar LR)∧ab (((((((U.setCell ⟨t,0,none⟩ (.int .i64 H)).setCell ⟨t,1,none⟩ (.int .i64 I)).setCell ⟨t,2,none⟩ (.slice o m d)).setCell ⟨t,3,none⟩ (.int .i64 K)).setCell ⟨t,4,none⟩ (.int .i64 L)).setCell ⟨t,5,none⟩ (.slice M N O)).setCell ⟨t,6,none⟩ (.bool b)) qo qc (ar LQ))from⟨bg (uH z).1 X (.int .i64 H) (.int .i64 I) (.slice o m d) (.int .i64 K) (.int .i64 L) (.slice M N O) (.bool b),bg (uH z).2.1 X (.int .i64 H) (.int .i64 I) (.slice o m d) (.int .i64 K) (.int .i64 L) (.slice M N O) (.bool b),bg (uH z).2.2.1 X (.int .i64 H) (.int .i64 I) (.slice o m d) (.int .i64 K) (.int .i64 L) (.slice M N O) (.bool b),bg (uH z).2.2.2 X (.int .i64 H) (.int .i64 I) (.slice o m d) (.int .i64 K) (.int .i64 L) (.slice M N O) (.bool b)⟩)
  have N5:=aa (iQ.putW hf X (.int .i64 H) (.int .i64 I) (.slice o m d) (.int .i64 K) (.int .i64 L) (.slice M N O) (.bool b))
  clear f A D z hf X G7
  have aI:=(uH N1).a.c0;have a0:=(uH N1).a.c1;have a5:=(uH N1).a.c2
  go_wp2_with fail
  clear aI a0 a5 x0 x1 x2 x3 x4 x5 x6 f0 f1 f2 f3 f4 f5 f6
  have f:=N1;have A:=N2;have D:=N3;have z:=N4;have F1:=N5
  clear N1 N2 N3 N4 N5
  refine(uH G8 _ (uH f).bel).mono ?_
  rintro e U ⟨a7,y⟩
  obtain⟨V,Y,oz,mz,dz,Z,ae,aj,am,av,rfl,hf⟩:=a7.shape
  replace f:=aa ((uH f).all y)
  replace A:=aa ((uH A).all y);replace D:=aa ((uH D).all y)
  replace z:=aa (show ab U lo lc (ar LL)∧ab U po pc (ar LP)∧ab U ro rc (ar LR)∧ab U qo qc (ar LQ)from⟨(uH z).1.below y,(uH z).2.1.below y,(uH z).2.2.1.below y,(uH z).2.2.2.below y⟩)
  replace F1:=aa ((uH F1).below y)
  clear y a7
  have X:=uH D
  have x0:=X.c0;have x1:=X.c1;have x2:=X.c2;have x3:=X.c3;have x4:=X.c4;have x5:=X.c5;have x6:=X.c6
  have f0:=X.free 0;have f1:=X.free 1;have f2:=X.free 2;have f3:=X.free 3;have f4:=X.free 4;have f5:=X.free 5;have f6:=X.free 6
  generalize k2=bz at*
  have N1:=aa (show ol w (((((((U.setCell ⟨(t+1),0,none⟩ (.int .i64 V)).setCell ⟨(t+1),1,none⟩ (.int .i64 Y)).setCell ⟨(t+1),2,none⟩ (.slice oz mz dz)).setCell ⟨(t+1),3,none⟩ (.int .i64 Z)).setCell ⟨(t+1),4,none⟩ (.int .i64 ae)).setCell ⟨(t+1),5,none⟩ (.slice aj am av)).setCell ⟨(t+1),6,none⟩ (.bool bz)) g1 g2 (.int .i64 r) (.int .i64 c) (.slice ao n ax) (.int .i64 p1) (.int .i64 p2) (.slice lo nl lc) (.int .i64 p3) (.int .i64 p4) (.slice po np pc) (.int .i64 t1) (.int .i64 t2) (.slice ro nr rc) (.int .i64 t3) (.int .i64 t4) (.slice qo nq qc)from(uH f).putW X (by have:=uH a6;omega) (.int .i64 V) (.int .i64 Y) (.slice oz mz dz) (.int .i64 Z) (.int .i64 ae) (.slice aj am av) (.bool bz))
  have N2:=aa (X.put (.int .i64 V) (.int .i64 Y) (.slice oz mz dz) (.int .i64 Z) (.int .i64 ae) (.slice aj am av) (.bool bz))
  have N3:=aa (show bw (((((((U.setCell ⟨(t+1),0,none⟩ (.int .i64 V)).setCell ⟨(t+1),1,none⟩ (.int .i64 Y)).setCell ⟨(t+1),2,none⟩ (.slice oz mz dz)).setCell ⟨(t+1),3,none⟩ (.int .i64 Z)).setCell ⟨(t+1),4,none⟩ (.int .i64 ae)).setCell ⟨(t+1),5,none⟩ (.slice aj am av)).setCell ⟨(t+1),6,none⟩ (.bool bz)) t (.int .i64 H) (.int .i64 I) (.slice o m d) (.int .i64 K) (.int .i64 L) (.slice M N O) (.bool b)from(uH A).seven (by omega) (.int .i64 V) (.int .i64 Y) (.slice oz mz dz) (.int .i64 Z) (.int .i64 ae) (.slice aj am av) (.bool bz))
  have N4:=aa (show(ab (((((((U.setCell ⟨(t+1),0,none⟩ (.int .i64 V)).setCell ⟨(t+1),1,none⟩ (.int .i64 Y)).setCell ⟨(t+1),2,none⟩ (.slice oz mz dz)).setCell ⟨(t+1),3,none⟩ (.int .i64 Z)).setCell ⟨(t+1),4,none⟩ (.int .i64 ae)).setCell ⟨(t+1),5,none⟩ (.slice aj am av)).setCell ⟨(t+1),6,none⟩ (.bool bz)) lo lc (ar LL)∧ab (((((((U.setCell ⟨(t+1),0,none⟩ (.int .i64 V)).setCell ⟨(t+1),1,none⟩ (.int .i64 Y)).setCell ⟨(t+1),2,none⟩ (.slice oz mz dz)).setCell ⟨(t+1),3,none⟩ (.int .i64 Z)).setCell ⟨(t+1),4,none⟩ (.int .i64 ae)).setCell ⟨(t+1),5,none⟩ (.slice aj am av)).setCell ⟨(t+1),6,none⟩ (.bool bz)) po pc (ar LP)∧ab (((((((U.setCell ⟨(t+1),0,none⟩ (.int .i64 V)).setCell ⟨(t+1),1,none⟩ (.int .i64 Y)).setCell ⟨(t+1),2,none⟩ (.slice oz mz dz)).setCell ⟨(t+1),3,none⟩ (.int .i64 Z)).setCell ⟨(t+1),4,none⟩ (.int .i64 ae)).setCell ⟨(t+1),5,none⟩ (.slice aj am av)).setCell ⟨(t+1),6,none⟩ (.bool bz)) ro rc (ar LR)∧ab (((((((U.setCell ⟨(t+1),0,none⟩ (.int .i64 V)).setCell ⟨(t+1),1,none⟩ (.int .i64 Y)).setCell ⟨(t+1),2,none⟩ (.slice oz mz dz)).setCell ⟨(t+1),3,none⟩ (.int .i64 Z)).setCell ⟨(t+1),4,none⟩ (.int .i64 ae)).setCell ⟨(t+1),5,none⟩ (.slice aj am av)).setCell ⟨(t+1),6,none⟩ (.bool bz)) qo qc (ar LQ))from⟨bg (uH z).1 X (.int .i64 V) (.int .i64 Y) (.slice oz mz dz) (.int .i64 Z) (.int .i64 ae) (.slice aj am av) (.bool bz),bg (uH z).2.1 X (.int .i64 V) (.int .i64 Y) (.slice oz mz dz) (.int .i64 Z) (.int .i64 ae) (.slice aj am av) (.bool bz),bg (uH z).2.2.1 X (.int .i64 V) (.int .i64 Y) (.slice oz mz dz) (.int .i64 Z) (.int .i64 ae) (.slice aj am av) (.bool bz),bg (uH z).2.2.2 X (.int .i64 V) (.int .i64 Y) (.slice oz mz dz) (.int .i64 Z) (.int .i64 ae) (.slice aj am av) (.bool bz)⟩)
  have N5:=aa (iQ.putW hf X (.int .i64 V) (.int .i64 Y) (.slice oz mz dz) (.int .i64 Z) (.int .i64 ae) (.slice aj am av) (.bool bz))
  have N6:=aa (iQ.putW (uH F1) X (.int .i64 V) (.int .i64 Y) (.slice oz mz dz) (.int .i64 Z) (.int .i64 ae) (.slice aj am av) (.bool bz))
  clear f A D z hf X G8 F1
  have f:=N1;have A:=N3;have D:=N2;have z:=N4;have F1:=N6;have F2:=N5
  clear N1 N2 N3 N4 N5 N6
  have l0:=(uH f).l.c0;have l1:=(uH f).l.c1;have l2:=(uH f).l.c2;have p0:=(uH f).p.c0;have p1:=(uH f).p.c1;have p2:=(uH f).p.c2;have u0:=(uH A).c0;have u1:=(uH A).c1;have u2:=(uH A).c2;have u3:=(uH A).c3;have u4:=(uH A).c4;have u5:=(uH A).c5;have u6:=(uH A).c6
  go_wp2_with fail
  clear x0 x1 x2 x3 x4 x5 x6 f0 f1 f2 f3 f4 f5 f6
  refine Calls.mono (uH T1 _ _ _ _ _ _ _ _ _ _ _ _ _ _ _ _ (uH z).1 (uH z).2.1 (uH F1) (by first|rfl|simp)) ?_
  rintro e w8 ⟨rfl,y⟩
  replace f:=aa ((uH f).all y)
  replace A:=aa ((uH A).all y);replace D:=aa ((uH D).all y)
  replace z:=aa (show ab w8 lo lc (ar LL)∧ab w8 po pc (ar LP)∧ab w8 ro rc (ar LR)∧ab w8 qo qc (ar LQ)from⟨(uH z).1.below y,(uH z).2.1.below y,(uH z).2.2.1.below y,(uH z).2.2.2.below y⟩)
  replace F2:=aa ((uH F2).below y)
  clear y l0 l1 l2 p0 p1 p2 u0 u1 u2 u3 u4 u5 u6
  have l0:=(uH f).r.c0;have l1:=(uH f).r.c1;have l2:=(uH f).r.c2;have p0:=(uH f).q.c0;have p1:=(uH f).q.c1;have p2:=(uH f).q.c2;have u0:=(uH D).c0;have u1:=(uH D).c1;have u2:=(uH D).c2;have u3:=(uH D).c3;have u4:=(uH D).c4;have u5:=(uH D).c5;have u6:=(uH D).c6
  go_wp2_with fail
  refine Calls.mono (uH T2 _ _ _ _ _ _ _ _ _ _ _ _ _ _ _ _ (uH z).2.2.1 (uH z).2.2.2 (uH F2) (by first|rfl|simp)) ?_
  rintro e w9 ⟨rfl,y⟩
  have BE:=aa ((uH f).bel.trans (y.mono (uH f).bel.size))
  clear y f A D z l0 l1 l2 p0 p1 p2 u0 u1 u2 u3 u4 u5 u6
  go_wp2_with fail
  refine(uH KA _ (uH BE)).mono ?_
  rintro e be ⟨rfl,y⟩
  replace BE:=aa ((uH BE).trans (y.mono (uH BE).size))
  clear y
  go_wp2
  go_ret
  exact⟨rfl,uH BE⟩
end Go.Proofs.YtenpggicmfhhdaaGreatDoor
namespace Go.Proofs.YtenpggicmfhhdaaGreatDoor
open Go.RowKit
theorem cn(f er:Int)(k:Bool)(n m:Nat)(Q:n=0)(T:m=0)(h:(f=0∧k=false∧er=2)∨(f=1∧er=1)∨(f=4∧er=4)∨(f=3∧er=3)){U V X Y Z A:Nat}{XQ XR:List Nat}:
  ∀l (lo:Option Addr) (t:Nat) (y:Option Addr) (z:Nat) (D F:Int) (o:Option Addr) (G d:Nat) (H I:Int) (K:Option Addr) (L M:Nat) b,ab l lo t (ar [])→ab l y z (ar [])→iQ l b U V X Y Z A XQ XR D F o G d H I K L M→(b=if f=0 then k else false)→
   Calls Tryz.prog 17 #[.agg #[.int .i64 ((0:Nat):Int),.int .i64 ((0:Nat):Int),.slice lo n t],.agg #[.int .i64 ((0:Nat):Int),.int .i64 ((0:Nat):Int),.slice y m z],.int .i64 er,.agg #[.int .i64 D,.int .i64 F,.slice o G d,.int .i64 H,.int .i64 I,.slice K L M,.bool b],.int .i64 f] l fun e w4=>e=.returned (.bool true)∧Below l.heap.size l w4:=by
 intro l lo t y z D F o G d H I K L M b _ _ _ N
 subst Q
 subst T
 refine xl f er b lo y t z _ _ _ _ _ _ l ?_
 rcases h with⟨O,h2,h3⟩|h
 ·rw[if_pos O,h2]at N
  exact .inl ⟨O,N,h3⟩
 ·exact .inr h
theorem k8(A p2 D F:Nat)(L P:List Nat)(G H:Nat)(T:L.length=G)(U:P.length=H)(h1:G≤36)(h2:H≤36):
  ∀f (lo:Option Addr) (h:Nat) (l:Option Addr) (t:Nat) (I K:Int) (o:Option Addr) (m d:Nat) (M N:Int) (y:Option Addr) (O z:Nat) b,ab f lo h (ar L)→ab f l t (ar P)→iQ f b D F A p2 H G P L I K o m d M N y O z→(b=if(0:Int)=0 then true else false)→
   Calls Tryz.prog 17 #[.agg #[.int .i64 A,.int .i64 p2,.slice lo L.length h],.agg #[.int .i64 D,.int .i64 F,.slice l P.length t],.int .i64 0,.agg #[.int .i64 I,.int .i64 K,.slice o m d,.int .i64 M,.int .i64 N,.slice y O z,.bool b],.int .i64 0] f fun e V=>e=.returned (.bool true)∧Below f.heap.size f V:=by
 intro f lo h l t I K o m d M N y O z b bl Z hf Q
 rw[if_pos rfl]at Q
 subst Q
 obtain⟨rfl,rfl,rfl,rfl,rfl,rfl,X,Y⟩:=hf rfl
 have:=uq D F A p2 l lo o y t h d z P L f Z bl X Y (by omega) (by omega)
 rw[U,T]at this⊢
 exact this
theorem FF(r c l:Nat)(y:Option Addr)(S:List Nat)(w:World)(h:Mx w y l r c S)(G:bB S=true)
  (LN:∀t y l (r c:Nat) S,Below w.heap.size w t→Mx t y l r c S→bB S=true→uX r c S=false→Calls Tryz.prog 12 #[.agg #[.int .i64 r,.int .i64 c,.slice y S.length l]] t fun e f=>∃v u,e=.returned (.tuple #[v,u,.int .i64 2])∧az 0 f 0 0 [] v∧az 0 f 0 0 [] u∧Below t.heap.size t f)
  (LY:∀t y l (r c:Nat) S,Below w.heap.size w t→Mx t y l r c S→bB S=true→uX r c S=true→Calls Tryz.prog 12 #[.agg #[.int .i64 r,.int .i64 c,.slice y S.length l]] t fun e f=>∃v u,e=.returned (.tuple #[v,u,.int .i64 0])∧az 0 f r c (o6 r c S) v∧az 0 f c c (rO r c S) u∧Below t.heap.size t f):
  ∃(H p2 I K:Nat) (D F:List Nat) (L:Int),(∀t,Below w.heap.size w t→Calls Tryz.prog 12 #[.agg #[.int .i64 r,.int .i64 c,.slice y S.length l]] t fun e f=>∃v u,e=.returned (.tuple #[v,u,.int .i64 L])∧az 0 f H p2 D v∧az 0 f I K F u∧Below t.heap.size t f)∧
   (∀z lo M N O (Q T:Int) (o:Option Addr) (m d:Nat) (U V:Int) (X:Option Addr) (Y Z:Nat) b,ab z lo M (ar D)→ab z N O (ar F)→iQ z b c c r c (c*c) (r*c) (rO r c S) (o6 r c S) Q T o m d U V X Y Z→(b=if(0:Int)=0 then uX r c S else false)→
    Calls Tryz.prog 17 #[.agg #[.int .i64 H,.int .i64 p2,.slice lo D.length M],.agg #[.int .i64 I,.int .i64 K,.slice N F.length O],.int .i64 L,.agg #[.int .i64 Q,.int .i64 T,.slice o m d,.int .i64 U,.int .i64 V,.slice X Y Z,.bool b],.int .i64 0] z fun e w4=>e=.returned (.bool true)∧Below z.heap.size z w4):=by
 have l1:=p7 r c S
 have l2:=ve r c S
 have s1:r*c≤36:=Nat.mul_le_mul h.2.2.1 h.2.2.2
 have s2:c*c≤36:=Nat.mul_le_mul h.2.2.2 h.2.2.2
 cases hk:uX r c S
 ·exact⟨0,0,0,0,[],[],2,fun t A=>LN t y l r c S A (h.below A) G hk,cn 0 2 false _ _ rfl rfl (.inl ⟨rfl,rfl,rfl⟩)⟩
 ·exact⟨r,c,c,c,o6 r c S,rO r c S,0,fun t A=>LY t y l r c S A (h.below A) G hk,k8 r c c c (o6 r c S) (rO r c S) (r*c) (c*c) l1 l2 s1 s2⟩
theorem FG(r c l:Nat)(y:Option Addr)(S:List Nat)(w:World)(h:Mx w y l r c S)(A:r≤c)(H:bB S=true)
  (RN:∀t y l (r c:Nat) S,Below w.heap.size w t→Mx t y l r c S→r≤c→bB S=true→uZ r c S=false→Calls Tryz.prog 13 #[.agg #[.int .i64 r,.int .i64 c,.slice y S.length l]] t fun e f=>∃v u,e=.returned (.tuple #[v,u,.int .i64 2])∧az 0 f 0 0 [] v∧az 0 f 0 0 [] u∧Below t.heap.size t f)
  (RY:∀t y l (r c:Nat) S,Below w.heap.size w t→Mx t y l r c S→r≤c→bB S=true→uZ r c S=true→Calls Tryz.prog 13 #[.agg #[.int .i64 r,.int .i64 c,.slice y S.length l]] t fun e f=>∃v u,e=.returned (.tuple #[v,u,.int .i64 0])∧az 0 f r c (uY r c S) v∧az 0 f c c (xq r c S) u∧Below t.heap.size t f):
  ∃(I p2 K L:Nat) (F G:List Nat) (M:Int),(∀t,Below w.heap.size w t→Calls Tryz.prog 13 #[.agg #[.int .i64 r,.int .i64 c,.slice y S.length l]] t fun e f=>∃v u,e=.returned (.tuple #[v,u,.int .i64 M])∧az 0 f I p2 F v∧az 0 f K L G u∧Below t.heap.size t f)∧
   (∀z lo N O Q (T U:Int) (o:Option Addr) (m d:Nat) (V X:Int) (Y:Option Addr) (Z d2:Nat) b,ab z lo N (ar F)→ab z O Q (ar G)→iQ z b c c r c (c*c) (r*c) (xq r c S) (uY r c S) T U o m d V X Y Z d2→(b=if(0:Int)=0 then uZ r c S else false)→
    Calls Tryz.prog 17 #[.agg #[.int .i64 I,.int .i64 p2,.slice lo F.length N],.agg #[.int .i64 K,.int .i64 L,.slice O G.length Q],.int .i64 M,.agg #[.int .i64 T,.int .i64 U,.slice o m d,.int .i64 V,.int .i64 X,.slice Y Z d2,.bool b],.int .i64 0] z fun e w4=>e=.returned (.bool true)∧Below z.heap.size z w4):=by
 have l1:(uY r c S).length=r*c:=Al _ _ _
 have l2:(xq r c S).length=c*c:=ff _ _ _
 have s1:r*c≤36:=Nat.mul_le_mul h.2.2.1 h.2.2.2
 have s2:c*c≤36:=Nat.mul_le_mul h.2.2.2 h.2.2.2
 cases hk:uZ r c S
 ·exact⟨0,0,0,0,[],[],2,fun t D=>RN t y l r c S D (h.below D) A H hk,cn 0 2 false _ _ rfl rfl (.inl ⟨rfl,rfl,rfl⟩)⟩
 ·exact⟨r,c,c,c,uY r c S,xq r c S,0,fun t D=>RY t y l r c S D (h.below D) A H hk,k8 r c c c (uY r c S) (xq r c S) (r*c) (c*c) l1 l2 s1 s2⟩
theorem qa(r c:Int)(m:Option Addr)(d:Nat)(I:List Int)(w:World)(G:ab w m d I)(hl:I.length≤17592186043904)
  (LE:∀f L M,Below w.heap.size w f→ab f L M I→jm r c I≠0→Calls Tryz.prog 12 #[.agg #[.int .i64 r,.int .i64 c,.slice L I.length M]] f fun e l=>∃v u,e=.returned (.tuple #[v,u,.int .i64 (jm r c I)])∧az 0 l 0 0 [] v∧az 0 l 0 0 [] u∧Below f.heap.size f l)
  (LN:∀f m d (r c:Nat) S,Below w.heap.size w f→Mx f m d r c S→bB S=true→uX r c S=false→Calls Tryz.prog 12 #[.agg #[.int .i64 r,.int .i64 c,.slice m S.length d]] f fun e l=>∃v u,e=.returned (.tuple #[v,u,.int .i64 2])∧az 0 l 0 0 [] v∧az 0 l 0 0 [] u∧Below f.heap.size f l)
  (LY:∀f m d (r c:Nat) S,Below w.heap.size w f→Mx f m d r c S→bB S=true→uX r c S=true→Calls Tryz.prog 12 #[.agg #[.int .i64 r,.int .i64 c,.slice m S.length d]] f fun e l=>∃v u,e=.returned (.tuple #[v,u,.int .i64 0])∧az 0 l r c (o6 r c S) v∧az 0 l c c (rO r c S) u∧Below f.heap.size f l)
  (RF:∀f L M,Below w.heap.size w f→ab f L M I→jA r c I.length=false→Calls Tryz.prog 13 #[.agg #[.int .i64 r,.int .i64 c,.slice L I.length M]] f fun e l=>∃v u,e=.returned (.tuple #[v,u,.int .i64 1])∧az 0 l 0 0 [] v∧az 0 l 0 0 [] u∧Below f.heap.size f l)
  (RS:∀f m d (r c:Nat) S,Below w.heap.size w f→Mx f m d r c S→c<r→Calls Tryz.prog 13 #[.agg #[.int .i64 r,.int .i64 c,.slice m S.length d]] f fun e l=>∃v u,e=.returned (.tuple #[v,u,.int .i64 3])∧az 0 l 0 0 [] v∧az 0 l 0 0 [] u∧Below f.heap.size f l)
  (RI:∀f m d (r c:Nat) S,Below w.heap.size w f→Mx f m d r c S→r≤c→bB S=false→Calls Tryz.prog 13 #[.agg #[.int .i64 r,.int .i64 c,.slice m S.length d]] f fun e l=>∃v u,e=.returned (.tuple #[v,u,.int .i64 4])∧az 0 l 0 0 [] v∧az 0 l 0 0 [] u∧Below f.heap.size f l)
  (RN:∀f m d (r c:Nat) S,Below w.heap.size w f→Mx f m d r c S→r≤c→bB S=true→uZ r c S=false→Calls Tryz.prog 13 #[.agg #[.int .i64 r,.int .i64 c,.slice m S.length d]] f fun e l=>∃v u,e=.returned (.tuple #[v,u,.int .i64 2])∧az 0 l 0 0 [] v∧az 0 l 0 0 [] u∧Below f.heap.size f l)
  (V:∀f m d (r c:Nat) S,Below w.heap.size w f→Mx f m d r c S→r≤c→bB S=true→uZ r c S=true→Calls Tryz.prog 13 #[.agg #[.int .i64 r,.int .i64 c,.slice m S.length d]] f fun e l=>∃v u,e=.returned (.tuple #[v,u,.int .i64 0])∧az 0 l r c (uY r c S) v∧az 0 l c c (xq r c S) u∧Below f.heap.size f l):
  Calls Tryz.prog 4 #[.agg #[.int .i64 r,.int .i64 c,.slice m I.length d]] w fun e f=>e=.returned (.bool true)∧Below w.heap.size w f:=by
 have N:=AM w V
 have D:=fun f (t:Below w.heap.size w f)=>p5 r c m d I f (G.below t) (by omega)
 have A:=fun(h:jm r c I≠0) f (t:Below w.heap.size w f)=>LE f m d t (G.below t) h
 cases ho:jA r c I.length
 ·have O:jm r c I=1:=by unfold jm;rw[ho];rfl
  rw[O]at D A
  exact d7 r c m I.length d 0 0 0 0 0 0 0 0 [] [] [] [] 1 1 1 1 false false false 0 0 0 0 0 0 0 0 0 0 0 0 [] [] [] [] w (.inl ⟨rfl,rfl,rfl⟩) (A (by decide)) (fun f t=>RF f m d t (G.below t) ho) D ho (fun e=>by cases e) (fun e=>by cases e) (cn 1 1 false _ _ rfl rfl (.inr (.inl ⟨rfl,rfl⟩))) (cn 1 1 false _ _ rfl rfl (.inr (.inl ⟨rfl,rfl⟩))) N
 ·obtain⟨p,q,rfl,rfl,K,hS⟩:=Mx.of G ho
  have H:=f7 I
  have F:=fun(h:q<p) f (t:Below w.heap.size w f)=>RS f m d p q (cR I) t (K.below t) h
  rw[H]at F
  cases hf:fu I I.length
  ·have O:jm (p:Int) (q:Int) I=4:=by unfold jm;rw[ho,hf];rfl
   have z:bB (cR I)=false:=by
    unfold bB
    rw[iH G,H]
    exact hf
   rw[O]at D A
   rcases Nat.lt_or_ge q p with y|y
   ·exact d7 p q m I.length d 0 0 0 0 0 0 0 0 [] [] [] [] 4 3 4 3 true false false 0 0 0 0 0 0 0 0 0 0 0 0 [] [] [] [] w (.inr (.inl ⟨rfl,by omega,rfl,rfl⟩)) (A (by decide)) (F y) D ho (fun e=>by cases e) (fun e=>by cases e) (cn 4 4 false _ _ rfl rfl (.inr (.inr (.inl ⟨rfl,rfl⟩)))) (cn 3 3 false _ _ rfl rfl (.inr (.inr (.inr ⟨rfl,rfl⟩)))) N
   ·have Q:=fun f (t:Below w.heap.size w f)=>RI f m d p q (cR I) t (K.below t) y z
    rw[H]at Q
    exact d7 p q m I.length d 0 0 0 0 0 0 0 0 [] [] [] [] 4 4 4 4 true false false 0 0 0 0 0 0 0 0 0 0 0 0 [] [] [] [] w (.inr (.inr (.inl ⟨rfl,by omega,rfl,rfl⟩))) (A (by decide)) Q D ho (fun e=>by cases e) (fun e=>by cases e) (cn 4 4 false _ _ rfl rfl (.inr (.inr (.inl ⟨rfl,rfl⟩)))) (cn 4 4 false _ _ rfl rfl (.inr (.inr (.inl ⟨rfl,rfl⟩)))) N
  ·have O:jm (p:Int) (q:Int) I=0:=by unfold jm;rw[ho,hf];rfl
   have z:bB (cR I)=true:=by
    unfold bB
    rw[iH G,H]
    exact hf
   rw[O]at D
   obtain⟨Y,p2,Z,p4,LL,LP,x1,U,DL⟩:=FF p q d m (cR I) w K z LN LY
   have T:=fun f (t:Below w.heap.size w f)=>vd p q d m (cR I) f (K.below t)
   rw[H]at U T
   rcases Nat.lt_or_ge q p with y|y
   ·exact d7 p q m I.length d Y p2 Z p4 0 0 0 0 LL LP [] [] x1 3 0 3 true (uX p q (cR I)) false q q p q (q*q) (p*q) 0 0 0 0 0 0 (rO p q (cR I)) (o6 p q (cR I)) [] [] w (.inr (.inr (.inr (.inl ⟨rfl,by omega,rfl,rfl⟩)))) U (F y) D ho (fun _=>T) (fun e=>by cases e) DL (cn 3 3 false _ _ rfl rfl (.inr (.inr (.inr ⟨rfl,rfl⟩)))) N
   ·obtain⟨t1,t2,t3,t4,LR,LQ,x2,CR,DR⟩:=FG p q d m (cR I) w K y z RN V
    have X:=fun f (t:Below w.heap.size w f)=>DJ p q d m (cR I) f (K.below t)
    rw[H]at CR X
    exact d7 p q m I.length d Y p2 Z p4 t1 t2 t3 t4 LL LP LR LQ x1 x2 0 0 true (uX p q (cR I)) (uZ p q (cR I)) q q p q (q*q) (p*q) q q p q (q*q) (p*q) (rO p q (cR I)) (o6 p q (cR I)) (xq p q (cR I)) (uY p q (cR I)) w (.inr (.inr (.inr (.inr ⟨rfl,by omega,rfl,rfl⟩)))) U CR D ho (fun _=>T) (fun _=>X) DL DR N
theorem gh{f:Nat}{a:Array Value}{w:World}{er:Int}{r c p q:Nat}{S T:List Nat}
  (h:Calls Tryz.prog f a w fun e d=>∃v u,e=.returned (.tuple #[v,u,.int .i64 er])∧az w.heap.size d r c S v∧az w.heap.size d p q T u∧Below w.heap.size w d):
  Calls Tryz.prog f a w fun e d=>∃v u,e=.returned (.tuple #[v,u,.int .i64 er])∧az 0 d r c S v∧az 0 d p q T u∧Below w.heap.size w d:=by
 refine h.mono ?_
 rintro e d ⟨v,u,l,m,t,y⟩
 exact⟨v,u,l,m.least (Nat.zero_le _),t.least (Nat.zero_le _),y⟩
theorem xm(r c d:Nat)(l:Option Addr)(S:List Nat)(w:World)(h:Mx w l d c r (d8 r c S))(m:S.length=r*c)(t:bB S=false):jm (c:Int) (r:Int) (ar (d8 r c S))=4:=by
 have f:fu (ar (d8 r c S)) (d8 r c S).length=false:=by have:=jC r c S m;rw[t]at this;exact this
 unfold jm
 rw[aq,mX h,f]
 rfl
theorem AN(r c d:Nat)(m:Option Addr)(S:List Nat)(w:World)(h:Mx w m d r c S)(F:bB S=false):
  Calls Tryz.prog 12 #[.agg #[.int .i64 r,.int .i64 c,.slice m S.length d]] w fun e f=>∃v u,e=.returned (.tuple #[v,u,.int .i64 4])∧az w.heap.size f 0 0 [] v∧az w.heap.size f 0 0 [] u∧Below w.heap.size w f:=by
 refine AG r c S.length d (d8 r c S).length m (d8 r c S) 4 w (.inl rfl) rfl (fun f z=>iI r c d m S f (h.below z)) (fun f t y z A=>?_)
 have D:Mx f t y c r (d8 r c S):=⟨A,ez _ _ _,h.2.2.2,h.2.2.1⟩
 have l:=xm r c y t S f D h.2.1 F
 have:=r8 (c:Int) (r:Int) t y (ar (d8 r c S)) f A (by have:=D.small;rw[aq];omega) (by rw[l];decide)
 rw[aq,l]at this
 exact this
theorem Gt(r c:Int)(f:Option Addr)(d:Nat)(I:List Int)(w:World)(y:ab w f d I)(A:I.length≤17592186043904)(h:jm r c I≠0):
  Calls Tryz.prog 12 #[.agg #[.int .i64 r,.int .i64 c,.slice f I.length d]] w fun e l=>∃v u,e=.returned (.tuple #[v,u,.int .i64 (jm r c I)])∧az w.heap.size l 0 0 [] v∧az w.heap.size l 0 0 [] u∧Below w.heap.size w l:=by
 cases ho:jA r c I.length
 ·have t:jm r c I=1:=by unfold jm;rw[ho];rfl
  rw[t]
  exact DQ r c f I.length d w (fun l D=>zU r c f I.length d l (by omega) ho)
 ·cases hf:fu I I.length
  ·obtain⟨p,q,rfl,rfl,z,F⟩:=Mx.of y ho
   have t:jm (p:Int) (q:Int) I=4:=by unfold jm;rw[ho,hf];rfl
   have m:bB (cR I)=false:=by
    unfold bB
    rw[iH y,f7]
    exact hf
   rw[t]
   have:=AN p q d f (cR I) w z m
   rw[f7]at this
   exact this
  ·exact absurd (by unfold jm;rw[ho,hf];rfl) h
theorem Ef(r c d:Nat)(l:Option Addr)(S:List Nat)(w:World)(h:Mx w l d r c S)(t:bB S=true)(y:uX r c S=false)(z:cd w):
  Calls Tryz.prog 12 #[.agg #[.int .i64 r,.int .i64 c,.slice l S.length d]] w fun e f=>∃v u,e=.returned (.tuple #[v,u,.int .i64 2])∧az w.heap.size f 0 0 [] v∧az w.heap.size f 0 0 [] u∧Below w.heap.size w f:=
 AG r c S.length d (d8 r c S).length l (d8 r c S) 2 w (.inr rfl) rfl (fun f m=>iI r c d l S f (h.below m)) (fun f A D m F=>um c r D A (d8 r c S) f ⟨F,ez _ _ _,h.2.2.2,h.2.2.1⟩ ((jC r c S h.2.1).trans t) y (z.all m))
theorem AO(r c f:Nat)(y:Option Addr)(S:List Nat)(w:World)(h:Mx w y f r c S)(A:bB S=true)(D:uX r c S=true)(F:cd w):
  Calls Tryz.prog 12 #[.agg #[.int .i64 r,.int .i64 c,.slice y S.length f]] w fun e d=>∃v u,e=.returned (.tuple #[v,u,.int .i64 0])∧az w.heap.size d r c (o6 r c S) v∧az w.heap.size d c c (rO r c S) u∧Below w.heap.size w d:=
 Gq r c S.length f _ _ _ _ _ y (d8 r c S) (il c r (d8 r c S)) (iM c r (d8 r c S)) (o6 r c S) (rO r c S) w rfl rfl rfl rfl rfl (fun d z=>iI r c f y S d (h.below z))
  (fun d l m z t=>r9 c r m l (d8 r c S) d ⟨t,ez _ _ _,h.2.2.2,h.2.2.1⟩ ((jC r c S h.2.1).trans A) D (F.all z))
  (fun d l m t=>iI c r m l (iM c r (d8 r c S)) d ⟨t,eE c r _ (ez _ _ _) _,h.2.2.2,h.2.2.1⟩)
  (fun d l m t=>iI c c m l (il c r (d8 r c S)) d ⟨t,cQ _ _ _ _ _,h.2.2.2,h.2.2.2⟩)
theorem Gu(r c:Int)(l:Option Addr)(n d:Nat)(w:World)(m:n≤35184372088830)(h:jA r c n=false):
  Calls Tryz.prog 13 #[.agg #[.int .i64 r,.int .i64 c,.slice l n d]] w fun e f=>∃v u,e=.returned (.tuple #[v,u,.int .i64 1])∧az w.heap.size f 0 0 [] v∧az w.heap.size f 0 0 [] u∧Below w.heap.size w f:=by
 refine DS r c l n d w (fun f t=>?_)
 have:=ey r c l n d f m
 rw[h,if_neg (by decide)]at this
 exact this
theorem kl(r c d:Nat)(f:Option Addr)(S:List Nat)(w:World)(h:Mx w f d r c S):
  Calls Tryz.prog 19 #[.agg #[.int .i64 r,.int .i64 c,.slice f S.length d]] w fun e l=>e=.returned (.int .i64 0)∧Below w.heap.size w l:=by
 have:=ey r c f S.length d w (by have:=h.small;omega)
 rw[mX h,if_pos (Eq.refl true)]at this
 exact this
theorem DV(r c d:Nat)(l:Option Addr)(S:List Nat)(w:World)(h:Mx w l d r c S)(m:c<r):
  Calls Tryz.prog 13 #[.agg #[.int .i64 r,.int .i64 c,.slice l S.length d]] w fun e f=>∃v u,e=.returned (.tuple #[v,u,.int .i64 3])∧az w.heap.size f 0 0 [] v∧az w.heap.size f 0 0 [] u∧Below w.heap.size w f:=
 AH r c S.length d l w m (fun f t=>kl r c d l S f (h.below t))
theorem FH(r c d:Nat)(l:Option Addr)(S:List Nat)(w:World)(h:Mx w l d r c S)(m:r≤c)(y:bB S=false):
  Calls Tryz.prog 13 #[.agg #[.int .i64 r,.int .i64 c,.slice l S.length d]] w fun e f=>∃v u,e=.returned (.tuple #[v,u,.int .i64 4])∧az w.heap.size f 0 0 [] v∧az w.heap.size f 0 0 [] u∧Below w.heap.size w f:=
 AJ r c S.length d _ l (eY r c S) 4 w (.inl rfl) m rfl (fun f t=>kl r c d l S f (h.below t)) (fun f t=>iO r c d l true false S f (h.below t))
  (fun f z A _ D=>AN r c A z (eY r c S) f ⟨D,ff _ _ _,h.2.2.1,h.2.2.2⟩ ((jD r c S h.2.1).trans y))
theorem Gv(r c d:Nat)(l:Option Addr)(S:List Nat)(w:World)(h:Mx w l d r c S)(t:r≤c)(y:bB S=true)(z:uZ r c S=false)(A:cd w):
  Calls Tryz.prog 13 #[.agg #[.int .i64 r,.int .i64 c,.slice l S.length d]] w fun e f=>∃v u,e=.returned (.tuple #[v,u,.int .i64 2])∧az w.heap.size f 0 0 [] v∧az w.heap.size f 0 0 [] u∧Below w.heap.size w f:=
 AJ r c S.length d _ l (eY r c S) 2 w (.inr rfl) t rfl (fun f m=>kl r c d l S f (h.below m)) (fun f m=>iO r c d l true false S f (h.below m))
  (fun f D F m G=>Ef r c F D (eY r c S) f ⟨G,ff _ _ _,h.2.2.1,h.2.2.2⟩ ((jD r c S h.2.1).trans y) z (A.all m))
theorem FI(r c f:Nat)(l:Option Addr)(S:List Nat)(w:World)(h:Mx w l f r c S)(A:r≤c)(D:bB S=true)(F:uZ r c S=true)(G:cd w):
  Calls Tryz.prog 13 #[.agg #[.int .i64 r,.int .i64 c,.slice l S.length f]] w fun e d=>∃v u,e=.returned (.tuple #[v,u,.int .i64 0])∧az w.heap.size d r c (uY r c S) v∧az w.heap.size d c c (xq r c S) u∧Below w.heap.size w d:=
 Gr r c S.length f _ _ _ _ _ l (eY r c S) (o6 r c (eY r c S)) (rO r c (eY r c S)) (uY r c S) (xq r c S) w A rfl rfl rfl rfl rfl (fun d m=>kl r c f l S d (h.below m)) (fun d m=>iO r c f l true false S d (h.below m))
  (fun d t y m z=>AO r c y t (eY r c S) d ⟨z,ff _ _ _,h.2.2.1,h.2.2.2⟩ ((jD r c S h.2.1).trans D) F (G.all m))
  (fun d t y z=>iO r c y t true true (o6 r c (eY r c S)) d ⟨z,p7 _ _ _,h.2.2.1,h.2.2.2⟩)
  (fun d t y z=>iO c c y t true false (rO r c (eY r c S)) d ⟨z,ez _ _ _,h.2.2.2,h.2.2.2⟩)
theorem nC(r c:Int)(l:Option Addr)(d:Nat)(I:List Int)(w:World)(K:ab w l d I)(H:I.length≤17592186043904)(_hr:-9223372036854775808≤r∧r≤9223372036854775807)(_hc:-9223372036854775808≤c∧c≤9223372036854775807)(A:cd w):
  Calls Tryz.prog 4 #[.agg #[.int .i64 r,.int .i64 c,.slice l I.length d]] w fun e f=>e=.returned (.bool true)∧Below w.heap.size w f:=
 qa r c l d I w K H (fun f D F _ L h=>gh (Gt r c D F I f L H h)) (fun f l d r c S y h t z=>gh (Ef r c d l S f h t z (A.all y))) (fun f l d r c S y h t z=>gh (AO r c d l S f h t z (A.all y)))
  (fun f D F _ _ h=>gh (Gu r c D I.length F f (by omega) h)) (fun f l d r c S _ h G=>gh (DV r c d l S f h G)) (fun f l d r c S _ h m t=>gh (FH r c d l S f h m t)) (fun f l d r c S y h m t z=>gh (Gv r c d l S f h m t z (A.all y))) (fun f l d r c S y h m t z=>gh (FI r c d l S f h m t z (A.all y)))
end Go.Proofs.YtenpggicmfhhdaaGreatDoor
namespace Go.Proofs.YtenpggicmfhhdaaGreatDoor
open Go.ChangeShapes Go.WideShapes Go.ChangeAt Go.RowKit Go.Joins
theorem Tryz.own:ownKnob Tryz.prog.godebug=none:=by kernel_rfl
theorem Tryz.laidOut:laidOutB Tryz.prog=true:=by kernel_rfl
end Go.Proofs.YtenpggicmfhhdaaGreatDoor
namespace Go.Proofs.YtenpggicmfhhdaaGreatDoor
theorem jn{x:Int}(h:(Lit.int .i64 x).wf=true):-9223372036854775808≤x∧x≤9223372036854775807:=by
 simp[Lit.wf,IntKind.min,IntKind.max,IntKind.signed,IntKind.bits]at h
 omega
end Go.Proofs.YtenpggicmfhhdaaGreatDoor
