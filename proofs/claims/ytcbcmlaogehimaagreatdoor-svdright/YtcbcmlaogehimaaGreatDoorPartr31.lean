/- Part 31 of the texts. -/
import Derived.Test.YtcbcmlaogehimaaGreatDoorPartr30
set_option maxHeartbeats 16000000
set_option maxRecDepth 20000
namespace Go.Proofs.YtcbcmlaogehimaaGreatDoor
open Go.RowKit
attribute [local go_sem ↓] Go.wp_at_zero Go.wp_at_succ
theorem aL.three{w:World}{b g:Nat}{x y z:Value}(h:aL w b x y z)(A:b≠g)(u D d:Value):aL (((w.setCell ⟨g,0,none⟩ u).setCell ⟨g,1,none⟩ D).setCell ⟨g,2,none⟩ d) b x y z:=
 ((h.other (p:=⟨g,0,none⟩) A u).other (p:=⟨g,1,none⟩) A D).other (p:=⟨g,2,none⟩) A d
theorem oX{P:Program}{c:Code}{Q:Exit→Act→World→Prop}{a:Act}{w:World}{T:Type}(f:Act→T→Act)(J:T→World→Prop)(h:Code.wp P c (Exit.then (fun u d=>∃t:T,u=f a t∧J t d) (fun _ _ _=>False)) a w)(k:∀t d,J t d→Q .normal (f a t) d):Code.wp P c Q a w:=
 Code.wp_mono (fun e u d h=>by
  cases e<;>first
   |(obtain⟨t,z,A⟩:=h;rw[z];exact k t d A)
   |exact h.elim) h
structure fg (w wr:World) (r c N M:Nat) (s:Sd) (wo vo:Option Addr) (wc vc:Nat):Prop where
 bel:Below w.heap.size w wr
 bw:aL wr w.heap.size (.int .i64 r) (.int .i64 c) (.slice wo N wc)
 bv:aL wr (w.heap.size+1) (.int .i64 c) (.int .i64 c) (.slice vo M vc)
 b6:aL wr (w.heap.size+1+1) (.int .i64 0) (.int .i64 0) (.slice none 0 0)
 b7:aL wr (w.heap.size+1+1+1) (.int .i64 0) (.int .i64 0) (.slice none 0 0)
 mw:Mx wr wo wc r c s.W
 mv:Mx wr vo vc c c s.V
 hN:s.W.length=N
 hM:s.V.length=M
theorem fg.all{w wr u:World}{r c N M:Nat}{s:Sd}{z A:Option Addr}{wc D:Nat}(h:fg w wr r c N M s z A wc D)(d:Below wr.heap.size wr u):fg w u r c N M s z A wc D:=
 ⟨h.bel.trans (d.mono h.bel.size),h.bw.all d,h.bv.all d,h.b6.all d,h.b7.all d,h.mw.below d,h.mv.below d,h.hN,h.hM⟩
theorem fg.start{w:World}{r c N M:Nat}{s:Sd}{d h:Option Addr}{wc u:Nat}(Y:Mx w d wc r c s.W)(Z:Mx w h u c c s.V)(hN:s.W.length=N)(hM:s.V.length=M):
  fg w ((((w.alloc (.cells #[.int .i64 r,.int .i64 c,.slice d N wc] 24)).alloc (.cells #[.int .i64 c,.int .i64 c,.slice h M u] 24)).alloc (.cells #[.int .i64 0,.int .i64 0,.slice none 0 0] 24)).alloc (.cells #[.int .i64 0,.int .i64 0,.slice none 0 0] 24)) r c N M s d h wc u:=by
 have J:=ad w (.cells #[.int .i64 r,.int .i64 c,.slice d N wc] 24)
 have F:=aq w (.cells #[.int .i64 r,.int .i64 c,.slice d N wc] 24)
 have x0:=aL.new w (.int .i64 r) (.int .i64 c) (.slice d N wc)
 generalize w.alloc (.cells #[.int .i64 r,.int .i64 c,.slice d N wc] 24)=A at*
 have K:=ad A (.cells #[.int .i64 c,.int .i64 c,.slice h M u] 24)
 have L:=aq A (.cells #[.int .i64 c,.int .i64 c,.slice h M u] 24)
 have O:=aL.new A (.int .i64 c) (.int .i64 c) (.slice h M u)
 generalize A.alloc (.cells #[.int .i64 c,.int .i64 c,.slice h M u] 24)=D at*
 have G:=ad D (.cells #[.int .i64 0,.int .i64 0,.slice none 0 0] 24)
 have s2:=aq D (.cells #[.int .i64 0,.int .i64 0,.slice none 0 0] 24)
 have Q:=aL.new D (.int .i64 0) (.int .i64 0) (.slice none 0 0)
 generalize D.alloc (.cells #[.int .i64 0,.int .i64 0,.slice none 0 0] 24)=I at*
 have z:=ad I (.cells #[.int .i64 0,.int .i64 0,.slice none 0 0] 24)
 have U:=aL.new I (.int .i64 0) (.int .i64 0) (.slice none 0 0)
 generalize I.alloc (.cells #[.int .i64 0,.int .i64 0,.slice none 0 0] 24)=we at*
 rw[s2,L,F]at U
 rw[L,F]at Q
 rw[F]at O
 have q:=J.trans (K.mono J.size)
 have X:=q.trans (G.mono q.size)
 have H:=X.trans (z.mono X.size)
 exact⟨H,((x0.all K).all G).all z,(O.all G).all z,Q.all z,U,Y.below H,Z.below H,hN,hM⟩
theorem Mx.putM{w:World}{D:Option Addr}{z r c:Nat}{S:List Nat}(h:Mx w D z r c S){g:Nat}{x y:Int}{a:Option Addr}{n d:Nat}(G:aL w g (.int .i64 x) (.int .i64 y) (.slice a n d))(u F A:Value):Mx (((w.setCell ⟨g,0,none⟩ u).setCell ⟨g,1,none⟩ F).setCell ⟨g,2,none⟩ A) D z r c S:=⟨ap.putM h.1 G u F A,h.2⟩
theorem fg.putW{w wr:World}{r c N M:Nat}{s:Sd}{D z d:Option Addr}{wc A u:Nat}(h:fg w wr r c N M s D z wc A){W:List Nat}(F:Mx wr d u r c W)(G:W.length=N)(b:Bool):
  fg w (((wr.setCell ⟨w.heap.size,0,none⟩ (.int .i64 r)).setCell ⟨w.heap.size,1,none⟩ (.int .i64 c)).setCell ⟨w.heap.size,2,none⟩ (.slice d N u)) r c N M ⟨W,s.V,b⟩ d z u A:=
 ⟨aN (b:=w.heap.size) h.bel (Nat.le_refl _) _ _ _,h.bw.put _ _ _,h.bv.three (by omega) _ _ _,h.b6.three (by omega) _ _ _,h.b7.three (by omega) _ _ _,F.putM h.bw _ _ _,h.mv.putM h.bw _ _ _,G,h.hM⟩
theorem fg.putV{w wr:World}{r c N M:Nat}{s:Sd}{z A d:Option Addr}{wc D u:Nat}(h:fg w wr r c N M s z A wc D){V:List Nat}(F:Mx wr d u c c V)(G:V.length=M)(b:Bool):
  fg w (((wr.setCell ⟨w.heap.size+1,0,none⟩ (.int .i64 c)).setCell ⟨w.heap.size+1,1,none⟩ (.int .i64 c)).setCell ⟨w.heap.size+1,2,none⟩ (.slice d M u)) r c N M ⟨s.W,V,b⟩ z d wc u:=
 ⟨aN (b:=w.heap.size+1) h.bel (Nat.le_succ _) _ _ _,h.bw.three (by omega) _ _ _,h.bv.put _ _ _,h.b6.three (by omega) _ _ _,h.b7.three (by omega) _ _ _,h.mw.putM h.bv _ _ _,F.putM h.bv _ _ _,h.hN,G⟩
def Hp(w':World)(r c N M:Nat)(s:Sd)(e:Ending):Prop:=
 ∃wo wc vo vc,e=.returned (.tuple #[.agg #[.int .i64 r,.int .i64 c,.slice wo N wc],.agg #[.int .i64 c,.int .i64 c,.slice vo M vc],.bool s.still])∧Mx w' wo wc r c s.W∧Mx w' vo vc c c s.V∧s.W.length=N∧s.V.length=M
theorem oY(r c k d:Nat)(u:Option Addr)(S:List Nat)(w:World)(h:ap w u d (bH (dc r c S k)))(D:r≤6)(z:ch w):
  Calls Tryz.prog 171 #[.slice u r d] w fun e A=>e=.returned (.int .u64 (iD r c S k:Nat))∧Below w.heap.size w A:=by
 have:=ko u d (bH (dc r c S k)) w h (by rw[aH,bM];omega) z
 rwa[aH,bM]at this
theorem zD(r c p q d z:Nat)(A u:Option Addr)(S:List Nat)(w:World)(h:ap w A d (bH (dc r c S p)))(D:ap w u z (bH (dc r c S q)))(H:r≤6)(F:ch w):
  Calls Tryz.prog 211 #[.slice A r d,.slice u r z] w fun e G=>e=.returned (.int .u64 (pK r c S p q:Nat))∧Below w.heap.size w G:=by
 have:=mq A u d z (bH (dc r c S p)) (bH (dc r c S q)) w h D (by rw[aH,bM,aH,bM]) (by rw[aH,bM];omega) F
 rwa[aH,bM,aH,bM]at this
theorem wu(r c p q d z:Nat)(A u:Option Addr)(S:List Nat)(w:World)(h:ap w A d (bH (dc r c S p)))(D:ap w u z (bH (dc r c S q)))(H:r≤6)(F:ch w):
  Calls Tryz.prog 212 #[.slice A r d,.slice u r z,.int .u64 (pK r c S p q:Nat)] w fun e G=>e=.returned (.tuple #[.int .u64 (rm (iE r c S p q):Nat),.int .u64 (pL (iE r c S p q):Nat)])∧Below w.heap.size w G:=by
 have:=wt A u d z (pK r c S p q) (bH (dc r c S p)) (bH (dc r c S q)) w h D (by rw[aH,bM,aH,bM]) (by rw[aH,bM];omega) (oW _ _ _ _ _) F
 rwa[aH,bM]at this
theorem GF{r c low:Nat}{S:List Nat}{p:Nat}(h:ku low (iD r c S p)=false)(q:Nat):ug r c low S p q=true:=by unfold ug;rw[h];rfl
theorem rn{r c low p q:Nat}{s:Sd}(h:ug r c low s.W p q=true):qq r c low p q s=s:=by unfold qq;rw[if_pos h]
theorem uh{r c low p:Nat}{s:Sd}{t:Nat}(h:ku low (iD r c (mT r c low p s t).W p)=false):∀k,mT r c low p s (t+k)=mT r c low p s t
 |0=>rfl
 |k+1=>by
  have e:mT r c low p s (t+(k+1))=qq r c low p (p+1+(t+k)) (mT r c low p s (t+k)):=rfl
  rw[e,uh h k]
  exact rn (GF h _)
theorem ww(r c N M low a6 a7:Nat)(a9 ba:Option Addr)(W0 V0:List Nat)(w:World)(mw:Mx w a9 a6 r c W0)(mv:Mx w ba a7 c c V0)(hN:W0.length=N)(hM:V0.length=M)(a5:low<18446744073709551616)(hT:ch w):
  Calls Tryz.prog 172 #[.agg #[.int .i64 r,.int .i64 c,.slice a9 N a6],.agg #[.int .i64 c,.int .i64 c,.slice ba M a7],.int .u64 low] w fun e H=>Hp H r c N M (oU r c low ⟨W0,V0,true⟩ c) e∧Below w.heap.size w H:=by
 have A:=ac (fg.start (s:=⟨W0,V0,true⟩) mw mv hN hM)
 have HT:=ac hT
 have ah:c≤6:=mw.2.2.2
 have am:r≤6:=mw.2.2.1
 have RN:=ac (show r*c=N∧c*c=M from⟨mw.2.1.symm.trans hN,mv.2.1.symm.trans hM⟩)
 have OI:=ac (fun p (h:p<c)=>(show oU r c low ⟨W0,V0,true⟩ (p+1)=mT r c low p (oU r c low ⟨W0,V0,true⟩ p) (c-1-p)from rfl))
 generalize bs:(⟨W0,V0,true⟩:Sd)=s0 at*
 have e0:s0.still=true:=by rw[←bs]
 clear mw mv hN hM hT
 go_enter Tryz.func172,Tryz.ntmps172
 have y1:=(uH A).bw.c1
 go_wp2_with fail
 go_step3
 go_wp2_with fail
 go_step3
 go_wp2_with fail
 clear y1
 go_loopg [9,21] c (fun g b a wr=>∃(p:Nat) (J L:Option Addr) (wc O:Nat),p+g=c∧a=.int .i64 p∧b=.bool (oU r c low s0 p).still∧Hid (fg w wr r c N M (oU r c low s0 p) J L wc O))
 case atStart=>exact⟨0,a9,ba,a6,a7,Nat.zero_add _,rfl,by show Value.bool true=.bool s0.still;rw[e0],A⟩
 case round=>
  clear A
  obtain⟨p,J,L,wc,O,hp,rfl,rfl,A⟩:=hrel
  cases gk with
  |succ gh=>
   have az:p<c:=by omega
   have bA:(p:Int)<(c:Int):=by omega
   obtain⟨p1,bi⟩:∃p1,p1=p+1:=⟨_,rfl⟩
   have e1:IntKind.i64.wrap ((p:Int)+1)=(p1:Int):=(d7 _ (by omega)).trans (by omega)
   have e2:(p:Int)+1=(p1:Int):=by omega
   have aI:=ac bi
   clear bi
   have OE:=ac (uH OI p az)
   have PO:=ac (show∀P:Sd→Prop,P (mT r c low p (oU r c low s0 p) (c-1-p))→P (oU r c low s0 (p+1))from fun P h=>by rw[uH OE];exact h)
   generalize bx:oU r c low s0 p=sp at*
   clear bx OE
   go_wp2_with fail
   go_loopg [9,11] (c-1-p) (fun g2 b a wr=>∃(t:Nat) (J L:Option Addr) (wc O:Nat),t+g2=c-1-p∧a=.int .i64 ((p1+t:Nat):Int)∧b=.bool (mT r c low p sp t).still∧Hid (fg w wr r c N M (mT r c low p sp t) J L wc O))
   case atStart=>exact⟨0,J,L,wc,O,Nat.zero_add _,rfl,rfl,A⟩
   case round=>
    clear A
    obtain⟨t,J,L,wc,O,ht,rfl,rfl,A⟩:=hrel
    obtain⟨q,hq⟩:∃q,p1+t=q:=⟨_,rfl⟩
    have SK:=ac (fun h k=>uh (r:=r) (c:=c) (low:=low) (p:=p) (s:=sp) (t:=t) h k)
    have SU:=ac (show mT r c low p sp (t+1)=qq r c low p (p+1+t) (mT r c low p sp t)from rfl)
    rw[show p+1+t=q from by have:=uH aI;omega]at SU
    rw[hq]
    generalize hs:mT r c low p sp t=s at*
    have y1:=(uH A).bw.c1
    cases gk with
    |succ g2=>
     have bb:q<c:=by have:=uH aI;omega
     have bo:(q:Int)<(c:Int):=by omega
     have bd:p≠q:=by have:=uH aI;omega
     go_wp2_with fail
     clear y1
     refine al (fun W=>fg w W r c N M s J L wc O) (uH A) ?_
     clear A
     rintro V d
     have KP:=ac (fun H (h:Below V.heap.size V H)=>mp r c wc p J s.W H (d.mw.below h) az)
     have KQ:=ac (fun H (h:Below V.heap.size V H)=>mp r c wc q J s.W H (d.mw.below h) bb)
     rw[d.hN]at KP KQ
     have HK:=ac (fun H (h:Below V.heap.size V H)=>(show Below V.heap.size V H∧(H.cell? ⟨w.heap.size,0,none⟩=some (.int .i64 (r:Nat))∧H.cell? ⟨w.heap.size,1,none⟩=some (.int .i64 (c:Nat))∧H.cell? ⟨w.heap.size,2,none⟩=some (.slice J N wc))from⟨h,(d.bw.all h).c0,(d.bw.all h).c1,(d.bw.all h).c2⟩))
     have A:=ac d
     clear d
     go_region_held3(fun H=>Below V.heap.size V H∧(H.cell? ⟨w.heap.size,0,none⟩=some (.int .i64 (r:Nat))∧H.cell? ⟨w.heap.size,1,none⟩=some (.int .i64 (c:Nat))∧H.cell? ⟨w.heap.size,2,none⟩=some (.slice J N wc)))
      (first|exact uH HK _ (Below.refl _ _).drew|exact uH HK _ (by assumption)|fail "KK")
      (first|(go_at_call 175;with_reducible refine Calls.mono (uH KP _ (And.left (by assumption))) ?_;rintro e w6 ⟨an,d1,rfl,_,bn,ao⟩;have F:=ac bn;have bp:Below V.heap.size V w6:=Below.trans (And.left (by assumption)) (ao.mono (Below.size (And.left (by assumption))));clear ao bn KP)|(go_at_call 175;with_reducible refine Calls.mono (uH KQ _ (And.left (by assumption))) ?_;rintro e w7 ⟨ar,d2,rfl,_,Z,ao⟩;have G:=ac Z;replace F:=ac ((uH F).below ao);have bp:Below V.heap.size V w7:=Below.trans (And.left (by assumption)) (ao.mono (Below.size (And.left (by assumption))));clear ao Z KQ)|fail "NO ARM")
     all_goals
      have BB:=And.left (by assumption:Below V.heap.size V _∧_)
      replace A:=ac ((uH A).all BB)
      clear BB HK
      first
       |refine Gp (fun W=>fg w W r c N M s J L wc O∧ap W an d1 (bH (dc r c s.W p))∧ap W ar d2 (bH (dc r c s.W q))) ⟨uH A,uH F,uH G⟩ ?_
       |refine al (fun W=>fg w W r c N M s J L wc O∧ap W an d1 (bH (dc r c s.W p))∧ap W ar d2 (bH (dc r c s.W q))) ⟨uH A,uH F,uH G⟩ ?_
      clear A F G
      rintro U ⟨d,q1,q2⟩
      have A:=ac d;have F:=ac q1;have G:=ac q2
      clear d q1 q2
      go_wp2_with fail
      have K:=ac (oY r c p d1 an s.W _ (uH F) am ((uH HT).all (uH A).bel))
      refine Calls.mono (uH K) ?_
      rintro e w3 ⟨rfl,D⟩
      replace A:=ac ((uH A).all D);replace F:=ac ((uH F).below D);replace G:=ac ((uH G).below D)
      clear D K
      go_wp2_with fail
      have K:=ac (oY r c q d2 ar s.W _ (uH G) am ((uH HT).all (uH A).bel))
      refine Calls.mono (uH K) ?_
      rintro e w3 ⟨rfl,D⟩
      replace A:=ac ((uH A).all D);replace F:=ac ((uH F).below D);replace G:=ac ((uH G).below D)
      clear D K
      go_wp2_with fail
      have K:=ac (zD r c p q d1 d2 an ar s.W _ (uH F) (uH G) am ((uH HT).all (uH A).bel))
      refine Calls.mono (uH K) ?_
      rintro e w3 ⟨rfl,D⟩
      replace A:=ac ((uH A).all D);replace F:=ac ((uH F).below D);replace G:=ac ((uH G).below D)
      clear D K
      have TT:=ac (fun W (q1:ap W an d1 (bH (dc r c s.W p))) (q2:ap W ar d2 (bH (dc r c s.W q))) (hT:ch W)=>wu r c p q d1 d2 an ar s.W W q1 q2 am hT)
      have SB:=ac (show ug r c low s.W p q=(!(ku low (iD r c s.W p))||(!(ku low (iD r c s.W q))|| !(ku (xV (mV (iD r c s.W p) (iD r c s.W q)) (-44)) (fR (pK r c s.W p q)))))from rfl)
      have lx:=wh r c s.W p;have ly:=wh r c s.W q;have lg:=oW r c s.W p q
      generalize iD r c s.W p=x at*
      generalize iD r c s.W q=y at*
      generalize pK r c s.W p q=g at*
      have K1:=ac (fun H=>kn low x H a5 lx)
      have K2:=ac (fun H=>kn low y H a5 ly)
      have K3:=ac (fun H (hT:ch H)=>eR x y H lx ly hT)
      have K4:=ac (fun H (hT:ch H)=>gJ (mV x y) (-44) H (cY _ _) hT)
      have K5:=ac (fun H=>kN g H lg)
      have K6:=ac (fun H=>kn (xV (mV x y) (-44)) (fR g) H (oy _ _ (cY _ _)) (show fR _<18446744073709551616 by unfold fR;omega))
      clear lx ly
      go_wp2_with fail
      refine(uH K1 _).mono ?_
      rintro e w3 ⟨rfl,D⟩
      replace A:=ac ((uH A).all D);replace F:=ac ((uH F).below D);replace G:=ac ((uH G).below D)
      clear D K1
      cases h1:ku low x
      ·clear F G TT SB K2 K3 K4 K5 K6
       have EE:=ac (uH SK h1 (c-1-p-t))
       rw[show t+(c-1-p-t)=c-1-p by omega]at EE
       go_wp2_with fail
       go_roundg gh
       case measure=>omega
       case rel=>exact⟨p+1,J,L,wc,O,by omega,by go_num,by refine uH PO (fun x=>Value.bool s.still=.bool x.still) ?_;rw[uH EE],ac (by refine uH PO (fun x=>fg w _ r c N M x J L wc O) ?_;rw[uH EE];exact uH A)⟩
      ·clear SK
       go_wp2_with fail
       refine(uH K2 _).mono ?_
       rintro e w3 ⟨rfl,D⟩
       replace A:=ac ((uH A).all D);replace F:=ac ((uH F).below D);replace G:=ac ((uH G).below D)
       clear D K2
       cases h2:ku low y
       ·clear F G TT K3 K4 K5 K6
        have ax:qq r c low p q s=s:=rn (by rw[uH SB,h1,h2];rfl)
        rw[ax]at SU
        go_wp2_with fail
        go_roundg g2
        case measure=>omega
        case rel=>exact⟨t+1,J,L,wc,O,by omega,by go_num,by rw[uH SU],ac (by rw[uH SU];exact uH A)⟩
       ·go_wp2_with fail
        refine(uH K3 _ ((uH HT).all (uH A).bel)).mono ?_
        rintro e w3 ⟨rfl,D⟩
        replace A:=ac ((uH A).all D);replace F:=ac ((uH F).below D);replace G:=ac ((uH G).below D)
        clear D K3
        go_wp2_with fail
        refine(uH K4 _ ((uH HT).all (uH A).bel)).mono ?_
        rintro e w3 ⟨rfl,D⟩
        replace A:=ac ((uH A).all D);replace F:=ac ((uH F).below D);replace G:=ac ((uH G).below D)
        clear D K4
        go_wp2_with fail
        refine(uH K5 _).mono ?_
        rintro e w3 ⟨rfl,D⟩
        replace A:=ac ((uH A).all D);replace F:=ac ((uH F).below D);replace G:=ac ((uH G).below D)
        clear D K5
        go_wp2_with fail
        refine(uH K6 _).mono ?_
        rintro e w3 ⟨rfl,D⟩
        replace A:=ac ((uH A).all D);replace F:=ac ((uH F).below D);replace G:=ac ((uH G).below D)
        clear D K6
        cases h3:ku (xV (mV x y) (-44)) (fR g)
        ·clear F G TT
         have ax:qq r c low p q s=s:=rn (by rw[uH SB,h1,h2,h3];rfl)
         rw[ax]at SU
         go_wp2_with fail
         go_roundg g2
         case measure=>omega
         case rel=>exact⟨t+1,J,L,wc,O,by omega,by go_num,by rw[uH SU],ac (by rw[uH SU];exact uH A)⟩
        ·have ax:qq r c low p q s=LR r c p q s:=by
          unfold qq
          rw[if_neg (by rw[uH SB,h1,h2,h3];decide)]
         rw[ax]at SU
         go_wp2_with fail
         refine(uH TT _ (uH F) (uH G) ((uH HT).all (uH A).bel)).mono ?_
         rintro e w3 ⟨rfl,D⟩
         replace A:=ac ((uH A).all D)
         clear D TT F G SB h1 h2 h3
         unfold LR at SU
         have lC:=Dx (iE r c s.W p q);have lS:=JM (iE r c s.W p q)
         generalize rm (iE r c s.W p q)=C at*
         generalize pL (iE r c s.W p q)=S at*
         have KM:=ac (fun H=>fk S H lS)
         have lM:=nC S lS
         generalize fN S=S' at*
         go_wp2_with fail
         refine al (fun W=>fg w W r c N M s J L wc O) (uH A) ?_
         clear A
         rintro V2 d
         have d:=d.all (Below.refl V2.heap.size V2).drew
         have KC:=ac (fun H (D:Below V2.drew.heap.size V2.drew H)=>ue r c wc p q C S' J s.W H (d.mw.below D) az bb bd lC lM ((uH HT).all (d.bel.trans (D.mono d.bel.size))))
         rw[d.hN]at KC
         have A:=ac d
         clear d
         refine oX (T:=Option Addr×Nat) (fun a t=>((((((((((a.put (some 71) (.agg #[.int .i64 (r:Nat),.int .i64 (c:Nat),.slice J N wc])).put (some 72) (.int .i64 (p:Nat))).put (some 73) (.int .i64 (q:Nat))).put (some 74) (.int .u64 (C:Nat))).put (some 75) (.int .u64 (S:Nat))).put (some 76) (.int .u64 (S':Nat))).put (some 77) (.tuple #[.agg #[.int .i64 (r:Nat),.int .i64 (c:Nat),.slice t.1 N t.2],.int .i64 0])).put (some 70) (.tuple #[.agg #[.int .i64 (r:Nat),.int .i64 (c:Nat),.slice t.1 N t.2],.int .i64 0])).put (some 78) (.agg #[.int .i64 (r:Nat),.int .i64 (c:Nat),.slice t.1 N t.2])).put (some 79) (.int .i64 0))) (fun t H=>fg w H r c N M ⟨gd r c s.W p q C S',s.V,false⟩ t.1 L t.2 O) ?_ ?_
         ·have y0:=(uH A).bw.c0;have y1:=(uH A).bw.c1;have y2:=(uH A).bw.c2
          refine wp_region_held_drew (S:=fun H=>True) (by kernel_rfl) ?_ (fun z=>?_)
          ·exact trivial
          refine wpAnyH_take (i:=1) (oi:={dst:=some 72,op:=Op.move (Operand.tmp 10),type:=3,pos:= "turns.go:44",after:=#[],guard:=none}) (v:=.int .i64 (p:Nat)) rfl (by kernel_rfl) (by kernel_rfl) (by kernel_rfl) (fun _ _ _ h=>h) (Or.inl ⟨by rfl,?_⟩) (by assumption) ?_
          ·(intro w u;(try dsimp only at u);go_simp)
          simp only[Act.put,List.setIfInBounds_toArray,List.set_cons_zero,List.set_cons_succ]
          refine wpAnyH_take (i:=2) (oi:={dst:=some 73,op:=Op.move (Operand.tmp 11),type:=3,pos:= "turns.go:44",after:=#[],guard:=none}) (v:=.int .i64 (q:Nat)) rfl (by kernel_rfl) (by kernel_rfl) (by kernel_rfl) (fun _ _ _ h=>h) (Or.inl ⟨by rfl,?_⟩) (by assumption) ?_
          ·(intro w u;(try dsimp only at u);go_simp)
          simp only[Act.put,List.setIfInBounds_toArray,List.set_cons_zero,List.set_cons_succ]
          refine wpAnyH_take (i:=3) (oi:={dst:=some 74,op:=Op.move (Operand.tmp 17),type:=69,pos:= "turns.go:44",after:=#[],guard:=none}) (v:=.int .u64 (C:Nat)) rfl (by kernel_rfl) (by kernel_rfl) (by kernel_rfl) (fun _ _ _ h=>h) (Or.inl ⟨by rfl,?_⟩) (by assumption) ?_
          ·(intro w u;(try dsimp only at u);go_simp)
          simp only[Act.put,List.setIfInBounds_toArray,List.set_cons_zero,List.set_cons_succ]
          refine wpAnyH_take (i:=4) (oi:={dst:=some 75,op:=Op.move (Operand.tmp 18),type:=69,pos:= "turns.go:44",after:=#[],guard:=none}) (v:=.int .u64 (S:Nat)) rfl (by kernel_rfl) (by kernel_rfl) (by kernel_rfl) (fun _ _ _ h=>h) (Or.inl ⟨by rfl,?_⟩) (by assumption) ?_
          ·(intro w u;(try dsimp only at u);go_simp)
          simp only[Act.put,List.setIfInBounds_toArray,List.set_cons_zero,List.set_cons_succ]
          refine wpAnyH_ready (rs:=[0,5]) (by kernel_rfl) (by simp) ?_
          refine AllReadyH.cons (o:={dst:=some 71,op:=Op.load 24 (Operand.tmp 3),type:=24,pos:= "turns.go:44",after:=#[],guard:=none}) rfl (fun K I=>?_) (AllReadyH.cons (o:={dst:=some 76,op:=Op.call {callee:=Callee.value (Operand.func 162),args:=#[Operand.tmp 75],argTypes:=#[69]},type:=69,pos:= "turns.go:44",after:=#[{on:=4,ground:=Ground.data}],guard:=none}) rfl (fun K I=>?_) AllReadyH.nil)
          ·go_simp
           refine I.out _ _ ?_ (fun z=>?_)
           ·exact trivial
           clear I K
           refine wpAnyH_ready (rs:=[5]) (by kernel_rfl) (by simp) ?_
           refine AllReadyH.cons (o:={dst:=some 76,op:=Op.call {callee:=Callee.value (Operand.func 162),args:=#[Operand.tmp 75],argTypes:=#[69]},type:=69,pos:= "turns.go:44",after:=#[{on:=4,ground:=Ground.data}],guard:=none}) rfl (fun K I=>?_) AllReadyH.nil
           go_simp
           refine(uH KM _).mono ?_
           rintro e w5 ⟨rfl,rfl⟩
           go_wp2_with fail
           refine I.out _ _ ?_ (fun z=>?_)
           ·exact trivial
           clear I K
           refine wpAnyH_ready (rs:=[6]) (by kernel_rfl) (by simp) ?_
           refine AllReadyH.cons (o:={dst:=some 77,op:=Op.call {callee:=Callee.value (Operand.func 213),args:=#[Operand.tmp 71,Operand.tmp 72,Operand.tmp 73,Operand.tmp 74,Operand.tmp 76],argTypes:=#[24,3,3,69,69]},type:=28,pos:= "turns.go:44",after:=#[{on:=0,ground:=Ground.data},{on:=1,ground:=Ground.data},{on:=2,ground:=Ground.data},{on:=3,ground:=Ground.data},{on:=5,ground:=Ground.data},{on:=5,ground:=Ground.chain}],guard:=none}) rfl (fun K I=>?_) AllReadyH.nil
           go_simp
           refine(uH KC _ (Below.refl _ _)).mono ?_
           rintro e w6 ⟨v,rfl,⟨Q,X,rfl,_,Z⟩,D⟩
           have d:=(uH A).all D
           have Y:(gd r c s.W p q C S').length=N:=(gX _ _ _ _ _ _ _).trans (uH RN).1
           rw[Y]
           have z0:=d.bw.c0;have z1:=d.bw.c1;have z2:=d.bw.c2;have f0:=d.bw.free 0;have f1:=d.bw.free 1;have f2:=d.bw.free 2
           have S2:=ac (show fg w _ r c N M ⟨gd r c s.W p q C S',s.V,false⟩ Q L X O from d.putW (⟨Z,gX _ _ _ _ _ _ _,am,ah⟩:Mx w6 Q X r c (gd r c s.W p q C S')) Y false)
           clear d Z D Y
           go_wp2_with fail
           refine I.out _ _ ?_ (fun z=>?_)
           ·exact trivial
           clear I K
           refine wpAnyH_take (i:=7) (oi:={dst:=some 70,op:=Op.move (Operand.tmp 77),type:=28,pos:= "turns.go:44",after:=#[{on:=6,ground:=Ground.data}],guard:=none}) (v:=.tuple #[.agg #[.int .i64 (r:Nat),.int .i64 (c:Nat),.slice Q N X],.int .i64 0]) rfl (by kernel_rfl) (by kernel_rfl) (by kernel_rfl) (fun _ _ _ h=>h) (Or.inl ⟨by rfl,?_⟩) (by assumption) ?_
           ·(intro w u;(try dsimp only at u);go_simp)
           simp only[Act.put,List.setIfInBounds_toArray,List.set_cons_zero,List.set_cons_succ]
           refine wpAnyH_take (i:=8) (oi:={dst:=some 78,op:=Op.extract (Operand.tmp 70) 0,type:=24,pos:= "turns.go:44",after:=#[{on:=7,ground:=Ground.data}],guard:=none}) (v:=.agg #[.int .i64 (r:Nat),.int .i64 (c:Nat),.slice Q N X]) rfl (by kernel_rfl) (by kernel_rfl) (by kernel_rfl) (fun _ _ _ h=>h) (Or.inl ⟨by rfl,?_⟩) (by assumption) ?_
           ·(intro w u;(try dsimp only at u);go_simp)
           simp only[Act.put,List.setIfInBounds_toArray,List.set_cons_zero,List.set_cons_succ]
           refine wpAnyH_take (i:=9) (oi:={dst:=some 79,op:=Op.extract (Operand.tmp 70) 1,type:=27,pos:= "turns.go:44",after:=#[{on:=7,ground:=Ground.data},{on:=10,ground:=Ground.gcOnly Departure.lateStores}],guard:=none}) (v:=.int .i64 0) rfl (by kernel_rfl) (by kernel_rfl) (by kernel_rfl) (fun _ _ _ h=>h) (Or.inl ⟨by rfl,?_⟩) (by assumption) ?_
           ·(intro w u;(try dsimp only at u);go_simp)
           simp only[Act.put,List.setIfInBounds_toArray,List.set_cons_zero,List.set_cons_succ]
           refine wpAnyH_ready (rs:=[10]) (by kernel_rfl) (by simp) ?_
           refine AllReadyH.cons (o:={dst:=none,op:=Op.store 24 (Operand.tmp 3) (Operand.tmp 78),type:=0,pos:= "turns.go:44",after:=#[{on:=8,ground:=Ground.data},{on:=6,ground:=Ground.chain},{on:=0,ground:=Ground.phase},{on:=1,ground:=Ground.phase},{on:=2,ground:=Ground.phase},{on:=3,ground:=Ground.phase},{on:=4,ground:=Ground.phase},{on:=5,ground:=Ground.phase},{on:=6,ground:=Ground.phase},{on:=7,ground:=Ground.phase},{on:=8,ground:=Ground.phase},{on:=9,ground:=Ground.textOnly Departure.lateStores}],guard:=none}) rfl (fun K I=>?_) AllReadyH.nil
           go_simp
           refine I.out _ _ ?_ (fun z=>?_)
           ·exact trivial
           clear I K
           refine wpAnyH_done (by kernel_rfl) ?_ _
           exact⟨⟨Q,X⟩,by first|rfl|simp[Act.put],uH S2⟩
          ·go_simp
           refine(uH KM _).mono ?_
           rintro e w5 ⟨rfl,rfl⟩
           go_wp2_with fail
           refine I.out _ _ ?_ (fun z=>?_)
           ·exact trivial
           clear I K
           refine wpAnyH_ready (rs:=[0]) (by kernel_rfl) (by simp) ?_
           refine AllReadyH.cons (o:={dst:=some 71,op:=Op.load 24 (Operand.tmp 3),type:=24,pos:= "turns.go:44",after:=#[],guard:=none}) rfl (fun K I=>?_) AllReadyH.nil
           go_simp
           refine I.out _ _ ?_ (fun z=>?_)
           ·exact trivial
           clear I K
           refine wpAnyH_ready (rs:=[6]) (by kernel_rfl) (by simp) ?_
           refine AllReadyH.cons (o:={dst:=some 77,op:=Op.call {callee:=Callee.value (Operand.func 213),args:=#[Operand.tmp 71,Operand.tmp 72,Operand.tmp 73,Operand.tmp 74,Operand.tmp 76],argTypes:=#[24,3,3,69,69]},type:=28,pos:= "turns.go:44",after:=#[{on:=0,ground:=Ground.data},{on:=1,ground:=Ground.data},{on:=2,ground:=Ground.data},{on:=3,ground:=Ground.data},{on:=5,ground:=Ground.data},{on:=5,ground:=Ground.chain}],guard:=none}) rfl (fun K I=>?_) AllReadyH.nil
           go_simp
           refine(uH KC _ (Below.refl _ _)).mono ?_
           rintro e w6 ⟨v,rfl,⟨Q,X,rfl,_,Z⟩,D⟩
           have d:=(uH A).all D
           have Y:(gd r c s.W p q C S').length=N:=(gX _ _ _ _ _ _ _).trans (uH RN).1
           rw[Y]
           have z0:=d.bw.c0;have z1:=d.bw.c1;have z2:=d.bw.c2;have f0:=d.bw.free 0;have f1:=d.bw.free 1;have f2:=d.bw.free 2
           have S2:=ac (show fg w _ r c N M ⟨gd r c s.W p q C S',s.V,false⟩ Q L X O from d.putW (⟨Z,gX _ _ _ _ _ _ _,am,ah⟩:Mx w6 Q X r c (gd r c s.W p q C S')) Y false)
           clear d Z D Y
           go_wp2_with fail
           refine I.out _ _ ?_ (fun z=>?_)
           ·exact trivial
           clear I K
           refine wpAnyH_take (i:=7) (oi:={dst:=some 70,op:=Op.move (Operand.tmp 77),type:=28,pos:= "turns.go:44",after:=#[{on:=6,ground:=Ground.data}],guard:=none}) (v:=.tuple #[.agg #[.int .i64 (r:Nat),.int .i64 (c:Nat),.slice Q N X],.int .i64 0]) rfl (by kernel_rfl) (by kernel_rfl) (by kernel_rfl) (fun _ _ _ h=>h) (Or.inl ⟨by rfl,?_⟩) (by assumption) ?_
           ·(intro w u;(try dsimp only at u);go_simp)
           simp only[Act.put,List.setIfInBounds_toArray,List.set_cons_zero,List.set_cons_succ]
           refine wpAnyH_take (i:=8) (oi:={dst:=some 78,op:=Op.extract (Operand.tmp 70) 0,type:=24,pos:= "turns.go:44",after:=#[{on:=7,ground:=Ground.data}],guard:=none}) (v:=.agg #[.int .i64 (r:Nat),.int .i64 (c:Nat),.slice Q N X]) rfl (by kernel_rfl) (by kernel_rfl) (by kernel_rfl) (fun _ _ _ h=>h) (Or.inl ⟨by rfl,?_⟩) (by assumption) ?_
           ·(intro w u;(try dsimp only at u);go_simp)
           simp only[Act.put,List.setIfInBounds_toArray,List.set_cons_zero,List.set_cons_succ]
           refine wpAnyH_take (i:=9) (oi:={dst:=some 79,op:=Op.extract (Operand.tmp 70) 1,type:=27,pos:= "turns.go:44",after:=#[{on:=7,ground:=Ground.data},{on:=10,ground:=Ground.gcOnly Departure.lateStores}],guard:=none}) (v:=.int .i64 0) rfl (by kernel_rfl) (by kernel_rfl) (by kernel_rfl) (fun _ _ _ h=>h) (Or.inl ⟨by rfl,?_⟩) (by assumption) ?_
           ·(intro w u;(try dsimp only at u);go_simp)
           simp only[Act.put,List.setIfInBounds_toArray,List.set_cons_zero,List.set_cons_succ]
           refine wpAnyH_ready (rs:=[10]) (by kernel_rfl) (by simp) ?_
           refine AllReadyH.cons (o:={dst:=none,op:=Op.store 24 (Operand.tmp 3) (Operand.tmp 78),type:=0,pos:= "turns.go:44",after:=#[{on:=8,ground:=Ground.data},{on:=6,ground:=Ground.chain},{on:=0,ground:=Ground.phase},{on:=1,ground:=Ground.phase},{on:=2,ground:=Ground.phase},{on:=3,ground:=Ground.phase},{on:=4,ground:=Ground.phase},{on:=5,ground:=Ground.phase},{on:=6,ground:=Ground.phase},{on:=7,ground:=Ground.phase},{on:=8,ground:=Ground.phase},{on:=9,ground:=Ground.textOnly Departure.lateStores}],guard:=none}) rfl (fun K I=>?_) AllReadyH.nil
           go_simp
           refine I.out _ _ ?_ (fun z=>?_)
           ·exact trivial
           clear I K
           refine wpAnyH_done (by kernel_rfl) ?_ _
           exact⟨⟨Q,X⟩,by first|rfl|simp[Act.put],uH S2⟩
         rintro⟨Q,X⟩ V3 d
         simp only[Act.put,List.setIfInBounds_toArray,List.set_cons_zero,List.set_cons_succ]
         have A:=ac d
         clear d
         go_wp2_with fail
         refine al (fun W=>fg w W r c N M ⟨gd r c s.W p q C S',s.V,false⟩ Q L X O) (uH A) ?_
         clear A
         rintro V4 d
         have d:=d.all (Below.refl V4.heap.size V4).drew
         have be:s.V.length=M:=d.hM
         have KC:=ac (fun H (D:Below V4.drew.heap.size V4.drew H)=>ue c c O p q C S' L s.V H (d.mv.below D) az bb bd lC lM ((uH HT).all (d.bel.trans (D.mono d.bel.size))))
         rw[be]at KC
         have A:=ac d
         clear d be
         refine oX (T:=Option Addr×Nat) (fun a t=>((((((((((a.put (some 81) (.agg #[.int .i64 (c:Nat),.int .i64 (c:Nat),.slice L M O])).put (some 82) (.int .i64 (p:Nat))).put (some 83) (.int .i64 (q:Nat))).put (some 84) (.int .u64 (C:Nat))).put (some 85) (.int .u64 (S:Nat))).put (some 86) (.int .u64 (S':Nat))).put (some 87) (.tuple #[.agg #[.int .i64 (c:Nat),.int .i64 (c:Nat),.slice t.1 M t.2],.int .i64 0])).put (some 80) (.tuple #[.agg #[.int .i64 (c:Nat),.int .i64 (c:Nat),.slice t.1 M t.2],.int .i64 0])).put (some 88) (.agg #[.int .i64 (c:Nat),.int .i64 (c:Nat),.slice t.1 M t.2])).put (some 89) (.int .i64 0))) (fun t H=>fg w H r c N M ⟨gd r c s.W p q C S',gd c c s.V p q C S',false⟩ Q t.1 X t.2) ?_ ?_
         ·have y0:=(uH A).bv.c0;have y1:=(uH A).bv.c1;have y2:=(uH A).bv.c2
          refine wp_region_held_drew (S:=fun H=>True) (by kernel_rfl) ?_ (fun z=>?_)
          ·exact trivial
          refine wpAnyH_take (i:=1) (oi:={dst:=some 82,op:=Op.move (Operand.tmp 10),type:=3,pos:= "turns.go:45",after:=#[],guard:=none}) (v:=.int .i64 (p:Nat)) rfl (by kernel_rfl) (by kernel_rfl) (by kernel_rfl) (fun _ _ _ h=>h) (Or.inl ⟨by rfl,?_⟩) (by assumption) ?_
          ·(intro w u;(try dsimp only at u);go_simp)
          simp only[Act.put,List.setIfInBounds_toArray,List.set_cons_zero,List.set_cons_succ]
          refine wpAnyH_take (i:=2) (oi:={dst:=some 83,op:=Op.move (Operand.tmp 11),type:=3,pos:= "turns.go:45",after:=#[],guard:=none}) (v:=.int .i64 (q:Nat)) rfl (by kernel_rfl) (by kernel_rfl) (by kernel_rfl) (fun _ _ _ h=>h) (Or.inl ⟨by rfl,?_⟩) (by assumption) ?_
          ·(intro w u;(try dsimp only at u);go_simp)
          simp only[Act.put,List.setIfInBounds_toArray,List.set_cons_zero,List.set_cons_succ]
          refine wpAnyH_take (i:=3) (oi:={dst:=some 84,op:=Op.move (Operand.tmp 17),type:=69,pos:= "turns.go:45",after:=#[],guard:=none}) (v:=.int .u64 (C:Nat)) rfl (by kernel_rfl) (by kernel_rfl) (by kernel_rfl) (fun _ _ _ h=>h) (Or.inl ⟨by rfl,?_⟩) (by assumption) ?_
          ·(intro w u;(try dsimp only at u);go_simp)
          simp only[Act.put,List.setIfInBounds_toArray,List.set_cons_zero,List.set_cons_succ]
          refine wpAnyH_take (i:=4) (oi:={dst:=some 85,op:=Op.move (Operand.tmp 18),type:=69,pos:= "turns.go:45",after:=#[],guard:=none}) (v:=.int .u64 (S:Nat)) rfl (by kernel_rfl) (by kernel_rfl) (by kernel_rfl) (fun _ _ _ h=>h) (Or.inl ⟨by rfl,?_⟩) (by assumption) ?_
          ·(intro w u;(try dsimp only at u);go_simp)
          simp only[Act.put,List.setIfInBounds_toArray,List.set_cons_zero,List.set_cons_succ]
          refine wpAnyH_ready (rs:=[0,5]) (by kernel_rfl) (by simp) ?_
          refine AllReadyH.cons (o:={dst:=some 81,op:=Op.load 24 (Operand.tmp 4),type:=24,pos:= "turns.go:45",after:=#[],guard:=none}) rfl (fun K I=>?_) (AllReadyH.cons (o:={dst:=some 86,op:=Op.call {callee:=Callee.value (Operand.func 162),args:=#[Operand.tmp 85],argTypes:=#[69]},type:=69,pos:= "turns.go:45",after:=#[{on:=4,ground:=Ground.data}],guard:=none}) rfl (fun K I=>?_) AllReadyH.nil)
          ·go_simp
           refine I.out _ _ ?_ (fun z=>?_)
           ·exact trivial
           clear I K
           refine wpAnyH_ready (rs:=[5]) (by kernel_rfl) (by simp) ?_
           refine AllReadyH.cons (o:={dst:=some 86,op:=Op.call {callee:=Callee.value (Operand.func 162),args:=#[Operand.tmp 85],argTypes:=#[69]},type:=69,pos:= "turns.go:45",after:=#[{on:=4,ground:=Ground.data}],guard:=none}) rfl (fun K I=>?_) AllReadyH.nil
           go_simp
           refine(uH KM _).mono ?_
           rintro e w5 ⟨rfl,rfl⟩
           go_wp2_with fail
           refine I.out _ _ ?_ (fun z=>?_)
           ·exact trivial
           clear I K
           refine wpAnyH_ready (rs:=[6]) (by kernel_rfl) (by simp) ?_
           refine AllReadyH.cons (o:={dst:=some 87,op:=Op.call {callee:=Callee.value (Operand.func 213),args:=#[Operand.tmp 81,Operand.tmp 82,Operand.tmp 83,Operand.tmp 84,Operand.tmp 86],argTypes:=#[24,3,3,69,69]},type:=28,pos:= "turns.go:45",after:=#[{on:=0,ground:=Ground.data},{on:=1,ground:=Ground.data},{on:=2,ground:=Ground.data},{on:=3,ground:=Ground.data},{on:=5,ground:=Ground.data},{on:=5,ground:=Ground.chain}],guard:=none}) rfl (fun K I=>?_) AllReadyH.nil
           go_simp
           refine(uH KC _ (Below.refl _ _)).mono ?_
           rintro e w6 ⟨v,rfl,⟨aa,ae,rfl,_,Z⟩,D⟩
           have d:=(uH A).all D
           have Y:(gd c c s.V p q C S').length=M:=(gX _ _ _ _ _ _ _).trans (uH RN).2
           rw[Y]
           have z0:=d.bv.c0;have z1:=d.bv.c1;have z2:=d.bv.c2;have f0:=d.bv.free 0;have f1:=d.bv.free 1;have f2:=d.bv.free 2
           have S2:=ac (show fg w _ r c N M ⟨gd r c s.W p q C S',gd c c s.V p q C S',false⟩ Q aa X ae from d.putV (⟨Z,gX _ _ _ _ _ _ _,ah,ah⟩:Mx w6 aa ae c c (gd c c s.V p q C S')) Y false)
           clear d Z D Y
           go_wp2_with fail
           refine I.out _ _ ?_ (fun z=>?_)
           ·exact trivial
           clear I K
           refine wpAnyH_take (i:=7) (oi:={dst:=some 80,op:=Op.move (Operand.tmp 87),type:=28,pos:= "turns.go:45",after:=#[{on:=6,ground:=Ground.data}],guard:=none}) (v:=.tuple #[.agg #[.int .i64 (c:Nat),.int .i64 (c:Nat),.slice aa M ae],.int .i64 0]) rfl (by kernel_rfl) (by kernel_rfl) (by kernel_rfl) (fun _ _ _ h=>h) (Or.inl ⟨by rfl,?_⟩) (by assumption) ?_
           ·(intro w u;(try dsimp only at u);go_simp)
           simp only[Act.put,List.setIfInBounds_toArray,List.set_cons_zero,List.set_cons_succ]
           refine wpAnyH_take (i:=8) (oi:={dst:=some 88,op:=Op.extract (Operand.tmp 80) 0,type:=24,pos:= "turns.go:45",after:=#[{on:=7,ground:=Ground.data}],guard:=none}) (v:=.agg #[.int .i64 (c:Nat),.int .i64 (c:Nat),.slice aa M ae]) rfl (by kernel_rfl) (by kernel_rfl) (by kernel_rfl) (fun _ _ _ h=>h) (Or.inl ⟨by rfl,?_⟩) (by assumption) ?_
           ·(intro w u;(try dsimp only at u);go_simp)
           simp only[Act.put,List.setIfInBounds_toArray,List.set_cons_zero,List.set_cons_succ]
           refine wpAnyH_take (i:=9) (oi:={dst:=some 89,op:=Op.extract (Operand.tmp 80) 1,type:=27,pos:= "turns.go:45",after:=#[{on:=7,ground:=Ground.data},{on:=10,ground:=Ground.gcOnly Departure.lateStores}],guard:=none}) (v:=.int .i64 0) rfl (by kernel_rfl) (by kernel_rfl) (by kernel_rfl) (fun _ _ _ h=>h) (Or.inl ⟨by rfl,?_⟩) (by assumption) ?_
           ·(intro w u;(try dsimp only at u);go_simp)
           simp only[Act.put,List.setIfInBounds_toArray,List.set_cons_zero,List.set_cons_succ]
           refine wpAnyH_ready (rs:=[10]) (by kernel_rfl) (by simp) ?_
           refine AllReadyH.cons (o:={dst:=none,op:=Op.store 24 (Operand.tmp 4) (Operand.tmp 88),type:=0,pos:= "turns.go:45",after:=#[{on:=8,ground:=Ground.data},{on:=6,ground:=Ground.chain},{on:=0,ground:=Ground.phase},{on:=1,ground:=Ground.phase},{on:=2,ground:=Ground.phase},{on:=3,ground:=Ground.phase},{on:=4,ground:=Ground.phase},{on:=5,ground:=Ground.phase},{on:=6,ground:=Ground.phase},{on:=7,ground:=Ground.phase},{on:=8,ground:=Ground.phase},{on:=9,ground:=Ground.textOnly Departure.lateStores}],guard:=none}) rfl (fun K I=>?_) AllReadyH.nil
           go_simp
           refine I.out _ _ ?_ (fun z=>?_)
           ·exact trivial
           clear I K
           refine wpAnyH_done (by kernel_rfl) ?_ _
           exact⟨⟨aa,ae⟩,by first|rfl|simp[Act.put],uH S2⟩
          ·go_simp
           refine(uH KM _).mono ?_
           rintro e w5 ⟨rfl,rfl⟩
           go_wp2_with fail
           refine I.out _ _ ?_ (fun z=>?_)
           ·exact trivial
           clear I K
           refine wpAnyH_ready (rs:=[0]) (by kernel_rfl) (by simp) ?_
           refine AllReadyH.cons (o:={dst:=some 81,op:=Op.load 24 (Operand.tmp 4),type:=24,pos:= "turns.go:45",after:=#[],guard:=none}) rfl (fun K I=>?_) AllReadyH.nil
           go_simp
           refine I.out _ _ ?_ (fun z=>?_)
           ·exact trivial
           clear I K
           refine wpAnyH_ready (rs:=[6]) (by kernel_rfl) (by simp) ?_
           refine AllReadyH.cons (o:={dst:=some 87,op:=Op.call {callee:=Callee.value (Operand.func 213),args:=#[Operand.tmp 81,Operand.tmp 82,Operand.tmp 83,Operand.tmp 84,Operand.tmp 86],argTypes:=#[24,3,3,69,69]},type:=28,pos:= "turns.go:45",after:=#[{on:=0,ground:=Ground.data},{on:=1,ground:=Ground.data},{on:=2,ground:=Ground.data},{on:=3,ground:=Ground.data},{on:=5,ground:=Ground.data},{on:=5,ground:=Ground.chain}],guard:=none}) rfl (fun K I=>?_) AllReadyH.nil
           go_simp
           refine(uH KC _ (Below.refl _ _)).mono ?_
           rintro e w6 ⟨v,rfl,⟨aa,ae,rfl,_,Z⟩,D⟩
           have d:=(uH A).all D
           have Y:(gd c c s.V p q C S').length=M:=(gX _ _ _ _ _ _ _).trans (uH RN).2
           rw[Y]
           have z0:=d.bv.c0;have z1:=d.bv.c1;have z2:=d.bv.c2;have f0:=d.bv.free 0;have f1:=d.bv.free 1;have f2:=d.bv.free 2
           have S2:=ac (show fg w _ r c N M ⟨gd r c s.W p q C S',gd c c s.V p q C S',false⟩ Q aa X ae from d.putV (⟨Z,gX _ _ _ _ _ _ _,ah,ah⟩:Mx w6 aa ae c c (gd c c s.V p q C S')) Y false)
           clear d Z D Y
           go_wp2_with fail
           refine I.out _ _ ?_ (fun z=>?_)
           ·exact trivial
           clear I K
           refine wpAnyH_take (i:=7) (oi:={dst:=some 80,op:=Op.move (Operand.tmp 87),type:=28,pos:= "turns.go:45",after:=#[{on:=6,ground:=Ground.data}],guard:=none}) (v:=.tuple #[.agg #[.int .i64 (c:Nat),.int .i64 (c:Nat),.slice aa M ae],.int .i64 0]) rfl (by kernel_rfl) (by kernel_rfl) (by kernel_rfl) (fun _ _ _ h=>h) (Or.inl ⟨by rfl,?_⟩) (by assumption) ?_
           ·(intro w u;(try dsimp only at u);go_simp)
           simp only[Act.put,List.setIfInBounds_toArray,List.set_cons_zero,List.set_cons_succ]
           refine wpAnyH_take (i:=8) (oi:={dst:=some 88,op:=Op.extract (Operand.tmp 80) 0,type:=24,pos:= "turns.go:45",after:=#[{on:=7,ground:=Ground.data}],guard:=none}) (v:=.agg #[.int .i64 (c:Nat),.int .i64 (c:Nat),.slice aa M ae]) rfl (by kernel_rfl) (by kernel_rfl) (by kernel_rfl) (fun _ _ _ h=>h) (Or.inl ⟨by rfl,?_⟩) (by assumption) ?_
           ·(intro w u;(try dsimp only at u);go_simp)
           simp only[Act.put,List.setIfInBounds_toArray,List.set_cons_zero,List.set_cons_succ]
           refine wpAnyH_take (i:=9) (oi:={dst:=some 89,op:=Op.extract (Operand.tmp 80) 1,type:=27,pos:= "turns.go:45",after:=#[{on:=7,ground:=Ground.data},{on:=10,ground:=Ground.gcOnly Departure.lateStores}],guard:=none}) (v:=.int .i64 0) rfl (by kernel_rfl) (by kernel_rfl) (by kernel_rfl) (fun _ _ _ h=>h) (Or.inl ⟨by rfl,?_⟩) (by assumption) ?_
           ·(intro w u;(try dsimp only at u);go_simp)
           simp only[Act.put,List.setIfInBounds_toArray,List.set_cons_zero,List.set_cons_succ]
           refine wpAnyH_ready (rs:=[10]) (by kernel_rfl) (by simp) ?_
           refine AllReadyH.cons (o:={dst:=none,op:=Op.store 24 (Operand.tmp 4) (Operand.tmp 88),type:=0,pos:= "turns.go:45",after:=#[{on:=8,ground:=Ground.data},{on:=6,ground:=Ground.chain},{on:=0,ground:=Ground.phase},{on:=1,ground:=Ground.phase},{on:=2,ground:=Ground.phase},{on:=3,ground:=Ground.phase},{on:=4,ground:=Ground.phase},{on:=5,ground:=Ground.phase},{on:=6,ground:=Ground.phase},{on:=7,ground:=Ground.phase},{on:=8,ground:=Ground.phase},{on:=9,ground:=Ground.textOnly Departure.lateStores}],guard:=none}) rfl (fun K I=>?_) AllReadyH.nil
           go_simp
           refine I.out _ _ ?_ (fun z=>?_)
           ·exact trivial
           clear I K
           refine wpAnyH_done (by kernel_rfl) ?_ _
           exact⟨⟨aa,ae⟩,by first|rfl|simp[Act.put],uH S2⟩
         rintro⟨aa,ae⟩ V5 d
         simp only[Act.put,List.setIfInBounds_toArray,List.set_cons_zero,List.set_cons_succ]
         have A:=ac d
         clear d
         go_wp2_with fail
         go_roundg g2
         case measure=>omega
         case rel=>exact⟨t+1,Q,aa,X,ae,by omega,by go_num,by rw[uH SU],ac (by rw[uH SU];exact uH A)⟩
    |zero=>
     have bo:¬((q:Int)<(c:Int)):=by have:=uH aI;omega
     have bg:t=c-1-p:=by omega
     go_wp2_with fail
     clear y1
     go_roundg gh
     case measure=>omega
     case rel=>exact⟨p+1,J,L,wc,O,by omega,by go_num,by refine uH PO (fun x=>Value.bool s.still=.bool x.still) ?_;rw[←bg,hs],ac (by refine uH PO (fun x=>fg w wr r c N M x J L wc O) ?_;rw[←bg,hs];exact uH A)⟩
  |zero=>
   have bq:p=c:=by omega
   subst bq
   refine al (fun W=>fg w W r p N M (oU r p low s0 p) J L wc O) (uH A) ?_
   clear A
   rintro V d
   generalize a4:oU r p low s0 p=s at*
   have d:=d.all (Below.refl V.heap.size V).drew
   have y0:=d.bw.c0;have y1:=d.bw.c1;have y2:=d.bw.c2;have u0:=d.bv.c0;have u1:=d.bv.c1;have u2:=d.bv.c2
   have s0:=d.b6.c0;have s1:=d.b6.c1;have s2:=d.b6.c2;have f0:=d.b6.free 0;have f1:=d.b6.free 1;have f2:=d.b6.free 2
   have X6:=d.b6.put (.int .i64 (r:Nat)) (.int .i64 (p:Nat)) (.slice J N wc)
   have X7:=d.b7.three (g:=w.heap.size+1+1) (by omega) (.int .i64 (r:Nat)) (.int .i64 (p:Nat)) (.slice J N wc)
   have t0:=X7.c0;have t1:=X7.c1;have t2:=X7.c2;have g0:=X7.free 0;have g1:=X7.free 1;have g2:=X7.free 2
   have X8:=X7.put (.int .i64 (p:Nat)) (.int .i64 (p:Nat)) (.slice L M O)
   have X9:=X6.three (g:=w.heap.size+1+1+1) (by omega) (.int .i64 (p:Nat)) (.int .i64 (p:Nat)) (.slice L M O)
   have a0:=X9.c0;have a1:=X9.c1;have a2:=X9.c2;have b0:=X8.c0;have b1:=X8.c1;have b2:=X8.c2
   have a3:=ac (show Mx ((((((V.drew.setCell ⟨w.heap.size+1+1,0,none⟩ (.int .i64 (r:Nat))).setCell ⟨w.heap.size+1+1,1,none⟩ (.int .i64 (p:Nat))).setCell ⟨w.heap.size+1+1,2,none⟩ (.slice J N wc)).setCell ⟨w.heap.size+1+1+1,0,none⟩ (.int .i64 (p:Nat))).setCell ⟨w.heap.size+1+1+1,1,none⟩ (.int .i64 (p:Nat))).setCell ⟨w.heap.size+1+1+1,2,none⟩ (.slice L M O)) J wc r p s.W∧Mx ((((((V.drew.setCell ⟨w.heap.size+1+1,0,none⟩ (.int .i64 (r:Nat))).setCell ⟨w.heap.size+1+1,1,none⟩ (.int .i64 (p:Nat))).setCell ⟨w.heap.size+1+1,2,none⟩ (.slice J N wc)).setCell ⟨w.heap.size+1+1+1,0,none⟩ (.int .i64 (p:Nat))).setCell ⟨w.heap.size+1+1+1,1,none⟩ (.int .i64 (p:Nat))).setCell ⟨w.heap.size+1+1+1,2,none⟩ (.slice L M O)) L O p p s.V∧Below w.heap.size w ((((((V.drew.setCell ⟨w.heap.size+1+1,0,none⟩ (.int .i64 (r:Nat))).setCell ⟨w.heap.size+1+1,1,none⟩ (.int .i64 (p:Nat))).setCell ⟨w.heap.size+1+1,2,none⟩ (.slice J N wc)).setCell ⟨w.heap.size+1+1+1,0,none⟩ (.int .i64 (p:Nat))).setCell ⟨w.heap.size+1+1+1,1,none⟩ (.int .i64 (p:Nat))).setCell ⟨w.heap.size+1+1+1,2,none⟩ (.slice L M O))∧s.W.length=N∧s.V.length=M from⟨(d.mw.putM d.b6 _ _ _).putM X7 _ _ _,(d.mv.putM d.b6 _ _ _).putM X7 _ _ _,aN (b:=w.heap.size+1+1+1) (aN (b:=w.heap.size+1+1) d.bel (by omega) _ _ _) (by omega) _ _ _,d.hN,d.hM⟩)
   have H0:=ac (show V.drew.cell? ⟨w.heap.size,0,none⟩=some (.int .i64 (r:Nat))∧V.drew.cell? ⟨w.heap.size,1,none⟩=some (.int .i64 (p:Nat))∧V.drew.cell? ⟨w.heap.size,2,none⟩=some (.slice J N wc)∧V.drew.cell? ⟨w.heap.size+1,0,none⟩=some (.int .i64 (p:Nat))∧V.drew.cell? ⟨w.heap.size+1,1,none⟩=some (.int .i64 (p:Nat))∧V.drew.cell? ⟨w.heap.size+1,2,none⟩=some (.slice L M O)from⟨y0,y1,y2,u0,u1,u2⟩)
   have YY:=(d.bw.three (g:=w.heap.size+1+1) (by omega) (.int .i64 (r:Nat)) (.int .i64 (p:Nat)) (.slice J N wc));have UU:=(d.bv.three (g:=w.heap.size+1+1) (by omega) (.int .i64 (r:Nat)) (.int .i64 (p:Nat)) (.slice J N wc))
   have H1:=ac (And.intro YY.c0 (And.intro YY.c1 (And.intro YY.c2 (And.intro UU.c0 (And.intro UU.c1 UU.c2)))))
   have Y2:=YY.three (g:=w.heap.size+1+1+1) (by omega) (.int .i64 (p:Nat)) (.int .i64 (p:Nat)) (.slice L M O);have U2:=UU.three (g:=w.heap.size+1+1+1) (by omega) (.int .i64 (p:Nat)) (.int .i64 (p:Nat)) (.slice L M O)
   have H2:=ac (And.intro Y2.c0 (And.intro Y2.c1 (And.intro Y2.c2 (And.intro U2.c0 (And.intro U2.c1 U2.c2)))))
   clear d X6 X7 X8 X9 OI e0 YY UU Y2 U2
   generalize bz:s.still=b at*
   go_wp2_with fail
   refine wp_region_held_drew (S:=fun H=>H.cell? ⟨w.heap.size,0,none⟩=some (.int .i64 (r:Nat))∧H.cell? ⟨w.heap.size,1,none⟩=some (.int .i64 (p:Nat))∧H.cell? ⟨w.heap.size,2,none⟩=some (.slice J N wc)∧H.cell? ⟨w.heap.size+1,0,none⟩=some (.int .i64 (p:Nat))∧H.cell? ⟨w.heap.size+1,1,none⟩=some (.int .i64 (p:Nat))∧H.cell? ⟨w.heap.size+1,2,none⟩=some (.slice L M O)) (by kernel_rfl) ?_ (fun z=>?_)
   ·exact uH H0
   generalize V.drew=U at*
   refine wpAnyH_take (i:=0) (oi:={dst:=some 91,op:=Op.load 24 (Operand.tmp 3),type:=24,pos:= "turns.go:49",after:=#[],guard:=none}) (v:=.agg #[.int .i64 (r:Nat),.int .i64 (p:Nat),.slice J N wc]) rfl (by kernel_rfl) (by kernel_rfl) (by kernel_rfl) (fun _ _ _ h=>h) (Or.inl ⟨by rfl,?_⟩) (by assumption) ?_
   ·(intro w u;(try dsimp only at u);go_simp)
   simp only[Act.put,List.setIfInBounds_toArray,List.set_cons_zero,List.set_cons_succ]
   refine wpAnyH_take (i:=1) (oi:={dst:=some 92,op:=Op.load 24 (Operand.tmp 4),type:=24,pos:= "turns.go:49",after:=#[{on:=3,ground:=Ground.gcOnly Departure.lateStores}],guard:=none}) (v:=.agg #[.int .i64 (p:Nat),.int .i64 (p:Nat),.slice L M O]) rfl (by kernel_rfl) (by kernel_rfl) (by kernel_rfl) (fun _ _ _ h=>h) (Or.inl ⟨by rfl,?_⟩) (by assumption) ?_
   ·(intro w u;(try dsimp only at u);go_simp)
   simp only[Act.put,List.setIfInBounds_toArray,List.set_cons_zero,List.set_cons_succ]
   refine wpAnyH_take (i:=2) (oi:={dst:=some 93,op:=Op.move (Operand.tmp 9),type:=4,pos:= "turns.go:49",after:=#[{on:=4,ground:=Ground.gcOnly Departure.lateStores}],guard:=none}) (v:=.bool b) rfl (by kernel_rfl) (by kernel_rfl) (by kernel_rfl) (fun _ _ _ h=>h) (Or.inl ⟨by rfl,?_⟩) (by assumption) ?_
   ·(intro w u;(try dsimp only at u);go_simp)
   simp only[Act.put,List.setIfInBounds_toArray,List.set_cons_zero,List.set_cons_succ]
   refine wpAnyH_ready (rs:=[3]) (by kernel_rfl) (by simp) ?_
   refine AllReadyH.cons (o:={dst:=none,op:=Op.store 24 (Operand.tmp 6) (Operand.tmp 91),type:=0,pos:= "turns.go:49",after:=#[{on:=0,ground:=Ground.data},{on:=0,ground:=Ground.phase},{on:=1,ground:=Ground.textOnly Departure.lateStores},{on:=2,ground:=Ground.textOnly Departure.lateStores}],guard:=none}) rfl (fun K I=>?_) AllReadyH.nil
   go_simp
   refine I.out _ _ ?_ (fun z=>?_)
   ·exact uH H1
   clear I K
   refine wpAnyH_ready (rs:=[4]) (by kernel_rfl) (by simp) ?_
   refine AllReadyH.cons (o:={dst:=none,op:=Op.store 24 (Operand.tmp 7) (Operand.tmp 92),type:=0,pos:= "turns.go:49",after:=#[{on:=1,ground:=Ground.data},{on:=3,ground:=Ground.chain},{on:=0,ground:=Ground.phase},{on:=1,ground:=Ground.phase},{on:=2,ground:=Ground.textOnly Departure.lateStores},{on:=3,ground:=Ground.phase}],guard:=none}) rfl (fun K I=>?_) AllReadyH.nil
   go_simp
   refine I.out _ _ ?_ (fun z=>?_)
   ·exact uH H2
   clear I K
   refine wpAnyH_take (i:=5) (oi:={dst:=some 8,op:=Op.assign (Operand.tmp 93),type:=4,pos:= "turns.go:49",after:=#[{on:=2,ground:=Ground.data},{on:=4,ground:=Ground.chain},{on:=0,ground:=Ground.phase},{on:=1,ground:=Ground.phase},{on:=2,ground:=Ground.phase},{on:=3,ground:=Ground.phase},{on:=4,ground:=Ground.phase}],guard:=none}) (v:=.bool b) rfl (by kernel_rfl) (by kernel_rfl) (by kernel_rfl) (fun _ _ _ h=>h) (Or.inl ⟨by rfl,?_⟩) (by assumption) ?_
   ·(intro w u;(try dsimp only at u);go_simp)
   simp only[Act.put,List.setIfInBounds_toArray,List.set_cons_zero,List.set_cons_succ]
   refine wpAnyH_done (by kernel_rfl) ?_ _
   skip
   go_wp2_with fail
   try rw[Exit.noGoto_ret]
   exact bodyPost_ret (v:=.tuple #[.agg #[.int .i64 r,.int .i64 p,.slice J N wc],.agg #[.int .i64 p,.int .i64 p,.slice L M O],.bool b]) (by simp[results,Tryz.results172,go_sem,a0,a1,a2,b0,b1,b2]) rfl ⟨⟨J,wc,L,O,by rw[a4,bz],by rw[a4];exact(uH a3).1,by rw[a4];exact(uH a3).2.1,by rw[a4];exact(uH a3).2.2.2⟩,(uH a3).2.2.1⟩
structure mr (w wr:World) (g r c N M:Nat) (s:Sd) (wo vo:Option Addr) (wc vc:Nat):Prop where
 bel:Below w.heap.size w wr
 bw:aL wr w.heap.size (.int .i64 r) (.int .i64 c) (.slice wo N wc)
 b4:aL wr (w.heap.size+1) (.int .i64 0) (.int .i64 0) (.slice none 0 0)
 b5:aL wr (w.heap.size+1+1) (.int .i64 0) (.int .i64 0) (.slice none 0 0)
 bv:aL wr g (.int .i64 c) (.int .i64 c) (.slice vo M vc)
 hg:w.heap.size+1+1<g
 mw:Mx wr wo wc r c s.W
 mv:Mx wr vo vc c c s.V
 hN:s.W.length=N
 hM:s.V.length=M
theorem mr.all{w wr u:World}{g r c N M:Nat}{s:Sd}{z A:Option Addr}{wc D:Nat}(h:mr w wr g r c N M s z A wc D)(d:Below wr.heap.size wr u):mr w u g r c N M s z A wc D:=
 ⟨h.bel.trans (d.mono h.bel.size),h.bw.all d,h.b4.all d,h.b5.all d,h.bv.all d,h.hg,h.mw.below d,h.mv.below d,h.hN,h.hM⟩
theorem mr.put{w wr:World}{g r c N M:Nat}{s D:Sd}{F G d z:Option Addr}{wc H u A:Nat}(h:mr w wr g r c N M s F G wc H)(I:Mx wr d u r c D.W)(J:Mx wr z A c c D.V)(K:D.W.length=N)(L:D.V.length=M):
  mr w ((((((wr.setCell ⟨w.heap.size,0,none⟩ (.int .i64 r)).setCell ⟨w.heap.size,1,none⟩ (.int .i64 c)).setCell ⟨w.heap.size,2,none⟩ (.slice d N u)).setCell ⟨g,0,none⟩ (.int .i64 c)).setCell ⟨g,1,none⟩ (.int .i64 c)).setCell ⟨g,2,none⟩ (.slice z M A)) g r c N M D d z u A:=by
 have O:=h.hg
 have x:=h.bw.put (.int .i64 r) (.int .i64 c) (.slice d N u)
 have y:=h.bv.three (g:=w.heap.size) (by omega) (.int .i64 r) (.int .i64 c) (.slice d N u)
 exact⟨aN (b:=g) (aN (b:=w.heap.size) h.bel (Nat.le_refl _) _ _ _) (by omega) _ _ _,x.three (by omega) _ _ _,(h.b4.three (by omega) _ _ _).three (by omega) _ _ _,(h.b5.three (by omega) _ _ _).three (by omega) _ _ _,y.put _ _ _,O,(I.putM h.bw _ _ _).putM y _ _ _,(J.putM h.bw _ _ _).putM y _ _ _,K,L⟩
theorem mr.out{w wr:World}{g r c N M:Nat}{s:Sd}{d u:Option Addr}{wc z:Nat}(h:mr w wr g r c N M s d u wc z)(F:World)
  (hF:F=((((((wr.setCell ⟨w.heap.size+1,0,none⟩ (.int .i64 r)).setCell ⟨w.heap.size+1,1,none⟩ (.int .i64 c)).setCell ⟨w.heap.size+1,2,none⟩ (.slice d N wc)).setCell ⟨w.heap.size+1+1,0,none⟩ (.int .i64 c)).setCell ⟨w.heap.size+1+1,1,none⟩ (.int .i64 c)).setCell ⟨w.heap.size+1+1,2,none⟩ (.slice u M z))):
  aL F (w.heap.size+1) (.int .i64 r) (.int .i64 c) (.slice d N wc)∧aL F (w.heap.size+1+1) (.int .i64 c) (.int .i64 c) (.slice u M z)∧Mx F d wc r c s.W∧Mx F u z c c s.V∧Below w.heap.size w F∧s.W.length=N∧s.V.length=M:=by
 subst hF
 have x:=h.b4.put (.int .i64 r) (.int .i64 c) (.slice d N wc)
 have y:=h.b5.three (g:=w.heap.size+1) (by omega) (.int .i64 r) (.int .i64 c) (.slice d N wc)
 exact⟨x.three (by omega) _ _ _,y.put _ _ _,(h.mw.putM h.b4 _ _ _).putM y _ _ _,(h.mv.putM h.b4 _ _ _).putM y _ _ _,aN (b:=w.heap.size+1+1) (aN (b:=w.heap.size+1) h.bel (by omega) _ _ _) (by omega) _ _ _,h.hN,h.hM⟩
theorem oZ{r c low:Nat}{s:Sd}{n:Nat}(h:(gy r c low s n).still=true):∀k,gy r c low s (n+k)=gy r c low s n
 |0=>rfl
 |k+1=>by
  have e:gy r c low s (n+(k+1))=if(gy r c low s (n+k)).still=true then gy r c low s (n+k)else zW r c low (gy r c low s (n+k)):=rfl
  rw[e,oZ h k,if_pos h]
theorem JN{r c low:Nat}{s:Sd}{n:Nat}(h:(gy r c low s n).still=false):gy r c low s (n+1)=zW r c low (gy r c low s n):=by
 show(if(gy r c low s n).still=true then gy r c low s n else zW r c low (gy r c low s n))=_
 rw[h]
 rfl
def GG(r c:Nat)(S:List Nat)(n:Nat):Sd:=gy r c (xV (nr (bH S)) (-44)) ⟨S,iH c,false⟩ n
theorem ui(r c N M k wc:Nat)(z:Option Addr)(W:List Nat)(w:World)(mw:Mx w z wc r c W)(hN:W.length=N)(hM:c*c=M)(hk:k≤1000)(hT:ch w):
  Calls Tryz.prog 120 #[.agg #[.int .i64 r,.int .i64 c,.slice z N wc],.int .i64 k] w fun e X=>Hp X r c N M (GG r c W k) e∧Below w.heap.size w X:=by
 have b3:=oP w (.int .i64 r) (.int .i64 c) (.slice z N wc) (.int .i64 0) (.int .i64 0) (.slice none 0 0) (.int .i64 0) (.int .i64 0) (.slice none 0 0) (((w.alloc (.cells #[.int .i64 r,.int .i64 c,.slice z N wc] 24)).alloc (.cells #[.int .i64 0,.int .i64 0,.slice none 0 0] 24)).alloc (.cells #[.int .i64 0,.int .i64 0,.slice none 0 0] 24)) (by have:=Below.refl (((w.alloc (.cells #[.int .i64 r,.int .i64 c,.slice z N wc] 24)).alloc (.cells #[.int .i64 0,.int .i64 0,.slice none 0 0] 24)).alloc (.cells #[.int .i64 0,.int .i64 0,.slice none 0 0] 24)).heap.size (((w.alloc (.cells #[.int .i64 r,.int .i64 c,.slice z N wc] 24)).alloc (.cells #[.int .i64 0,.int .i64 0,.slice none 0 0] 24)).alloc (.cells #[.int .i64 0,.int .i64 0,.slice none 0 0] 24));simpa only[aq]using this)
 have s3:(((w.alloc (.cells #[.int .i64 r,.int .i64 c,.slice z N wc] 24)).alloc (.cells #[.int .i64 0,.int .i64 0,.slice none 0 0] 24)).alloc (.cells #[.int .i64 0,.int .i64 0,.slice none 0 0] 24)).heap.size=w.heap.size+1+1+1:=by simp only[aq]
 obtain⟨b0,x0,x1,x2⟩:=b3
 have HB:=ac b0;have HX:=ac (And.intro x0 (And.intro x1 x2));have S3:=ac s3
 have a5:=mw.2.2.1;have ah:=mw.2.2.2
 have LW:=ac (show(bH W).length=N from(aH W).trans hN)
 have MW:=ac mw;have HT:=ac hT
 have y1:=x0.c1
 have SW:=ac (show GG r c W k=gy r c (xV (nr (bH W)) (-44)) ⟨W,iH c,false⟩ k from rfl)
 generalize GG r c W k=a4 at*
 clear b0 x0 x1 x2 s3 mw hT
 go_enter Tryz.func120,Tryz.ntmps120
 go_wp2_with fail
 clear y1
 refine(Gm c _ ah).mono ?_
 rintro e w3 ⟨v,rfl,⟨J,L,rfl,_,hv⟩,Y⟩
 rw[show(iH c).length=M from(eW _ _ _).trans hM]
 rw[uH S3]at Y
 have a6:w.heap.size+1+1+1≤w3.heap.size:=by have:=Y.size;have:=uH S3;omega
 have ba:=ad w3 (.cells #[.int .i64 c,.int .i64 c,.slice J M L] 24)
 have xv:=aL.new w3 (.int .i64 c) (.int .i64 c) (.slice J M L)
 have aa:=(uH HB).trans (Y.mono (by omega))
 have hX:=uH HX
 have D:=ac (show mr w _ w3.heap.size r c N M ⟨W,iH c,false⟩ z J wc L from⟨aa.trans (ba.mono aa.size),(hX.1.below Y (by omega)).all ba,(hX.2.1.below Y (by omega)).all ba,(hX.2.2.below Y (by omega)).all ba,xv,by omega,((uH MW).below aa).below ba,⟨hv.below ba,(show(iH c).length=c*c from eW _ _ _),ah,ah⟩,hN,(show(iH c).length=M from(eW _ _ _).trans hM)⟩)
 clear Y ba xv aa hX HX HB S3 hv
 have y2:=(uH D).bw.c2
 go_wp2_with fail
 clear y2
 generalize w3.alloc (.cells #[.int .i64 c,.int .i64 c,.slice J M L] 24)=w4 at*
 generalize w3.heap.size=g at*
 have K:=ac (ko z wc (bH W) w4 (uH D).mw.1 (by rw[uH LW];have:=(uH MW).small;omega) ((uH HT).all (uH D).bel))
 rw[uH LW]at K
 refine Calls.mono (uH K) ?_
 rintro e w5 ⟨rfl,Y⟩
 replace D:=ac ((uH D).all Y)
 clear Y K
 have am:=vT (bH W)
 go_wp2_with fail
 refine(gJ (nr (bH W)) (-44) _ am ((uH HT).all (uH D).bel)).mono ?_
 rintro e w6 ⟨rfl,Y⟩
 replace D:=ac ((uH D).all Y)
 have ao:=oy (nr (bH W)) (-44) am
 clear Y am LW MW
 generalize xV (nr (bH W)) (-44)=low at*
 go_wp2_with fail
 go_loopw[22] (fun a wr=>∃(i:Nat) (z J:Option Addr) (wc L:Nat),i≤k∧a=.int .i64 i∧(gy r c low ⟨W,iH c,false⟩ i).still=false∧Hid (mr w wr g r c N M (gy r c low ⟨W,iH c,false⟩ i) z J wc L)) (fun a _=>k-(intOf a).toNat)
 case atStart=>exact⟨0,z,J,wc,L,Nat.zero_le _,rfl,rfl,D⟩
 case round=>
  clear D
  obtain⟨i,z,J,wc,L,hi,rfl,an,D⟩:=hrel
  by_cases a7:i<k
  ·have a9:(i:Int)<(k:Int):=by omega
   have SU:=ac (show gy r c low ⟨W,iH c,false⟩ (i+1)=zW r c low (gy r c low ⟨W,iH c,false⟩ i)from JN an)
   have SE:=ac (fun h=>oZ (r:=r) (c:=c) (low:=low) (s:=⟨W,iH c,false⟩) (n:=i+1) h (k-(i+1)))
   rw[show i+1+(k-(i+1))=k by omega,←uH SW]at SE
   generalize ae:gy r c low ⟨W,iH c,false⟩ (i+1)=s2 at*
   have ar:=ac ae
   clear ae
   generalize gy r c low ⟨W,iH c,false⟩ i=s at*
   have K:=ac (fun W' (h:mr w W' g r c N M s z J wc L)=>ww r c N M low wc L z J s.W s.V W' h.mw h.mv h.hN h.hM ao ((uH HT).all h.bel))
   rw[show oU r c low ⟨s.W,s.V,true⟩ c=s2 from(uH SU).symm]at K
   have y0:=(uH D).bw.c0;have y1:=(uH D).bw.c1;have y2:=(uH D).bw.c2;have u0:=(uH D).bv.c0;have u1:=(uH D).bv.c1;have u2:=(uH D).bv.c2
   go_wp2_with fail
   clear y0 y1 y2 u0 u1 u2
   refine(uH K _ (uH D)).mono ?_
   rintro e w7 ⟨⟨H,I,O,Q,rfl,hW,hV,ax,az⟩,Y⟩
   have d:=(uH D).all Y
   have S2:=ac (d.put hW hV ax az)
   have hg:=d.hg
   have s0:=d.bw.c0;have s1:=d.bw.c1;have aI:=d.bw.c2;have f0:=d.bw.free 0;have f1:=d.bw.free 1;have f2:=d.bw.free 2
   have F:=d.bv.three (g:=w.heap.size) (by omega) (.int .i64 (r:Nat)) (.int .i64 (c:Nat)) (.slice H N I)
   have t0:=F.c0;have t1:=F.c1;have t2:=F.c2;have g0:=F.free 0;have g1:=F.free 1;have g2:=F.free 2
   clear d F D Y K hW hV ax az hg
   cases hs2:s2.still
   ·go_wp2_with fail
    go_round
    case rel=>exact⟨i+1,H,O,I,Q,by omega,by go_num,by rw[uH ar];exact hs2,by rw[uH ar];exact S2⟩
    case measure=>simp[intOf];omega
   ·have EE:=ac (uH SE hs2)
    clear SE SU
    go_wp2_with fail
    clear s0 s1 aI f0 f1 f2 t0 t1 t2 g0 g1 g2
    refine al (fun W=>mr w W g r c N M s2 H O I Q) (uH S2) ?_
    clear S2
    rintro V d
    have d:=d.all (Below.refl V.heap.size V).drew
    have y0:=d.bw.c0;have y1:=d.bw.c1;have y2:=d.bw.c2;have u0:=d.bv.c0;have u1:=d.bv.c1;have u2:=d.bv.c2
    have s0:=d.b4.c0;have s1:=d.b4.c1;have s2:=d.b4.c2;have f0:=d.b4.free 0;have f1:=d.b4.free 1;have f2:=d.b4.free 2
    have F:=d.b5.three (g:=w.heap.size+1) (by omega) (.int .i64 (r:Nat)) (.int .i64 (c:Nat)) (.slice H N I)
    have t0:=F.c0;have t1:=F.c1;have t2:=F.c2;have g0:=F.free 0;have g1:=F.free 1;have g2:=F.free 2
    have u:=ac (d.out _ rfl)
    have a0:=(uH u).1.c0;have a1:=(uH u).1.c1;have a2:=(uH u).1.c2;have b0:=(uH u).2.1.c0;have b1:=(uH u).2.1.c1;have b2:=(uH u).2.1.c2
    have H0:=ac (And.intro y0 (And.intro y1 (And.intro y2 (And.intro u0 (And.intro u1 u2)))))
    have hg:=d.hg
    have YY:=(d.bw.three (g:=w.heap.size+1) (by omega) (.int .i64 (r:Nat)) (.int .i64 (c:Nat)) (.slice H N I));have UU:=(d.bv.three (g:=w.heap.size+1) (by omega) (.int .i64 (r:Nat)) (.int .i64 (c:Nat)) (.slice H N I))
    have H1:=ac (And.intro YY.c0 (And.intro YY.c1 (And.intro YY.c2 (And.intro UU.c0 (And.intro UU.c1 UU.c2)))))
    have Y2:=YY.three (g:=w.heap.size+1+1) (by omega) (.int .i64 (c:Nat)) (.int .i64 (c:Nat)) (.slice O M Q);have U2:=UU.three (g:=w.heap.size+1+1) (by omega) (.int .i64 (c:Nat)) (.int .i64 (c:Nat)) (.slice O M Q)
    have H2:=ac (And.intro Y2.c0 (And.intro Y2.c1 (And.intro Y2.c2 (And.intro U2.c0 (And.intro U2.c1 U2.c2)))))
    clear d F YY UU Y2 U2 hg
    go_wp2_with fail
    refine wp_region_held_drew (S:=fun X=>X.cell? ⟨w.heap.size,0,none⟩=some (.int .i64 (r:Nat))∧X.cell? ⟨w.heap.size,1,none⟩=some (.int .i64 (c:Nat))∧X.cell? ⟨w.heap.size,2,none⟩=some (.slice H N I)∧X.cell? ⟨g,0,none⟩=some (.int .i64 (c:Nat))∧X.cell? ⟨g,1,none⟩=some (.int .i64 (c:Nat))∧X.cell? ⟨g,2,none⟩=some (.slice O M Q)) (by kernel_rfl) ?_ (fun A=>?_)
    ·exact uH H0
    generalize V.drew=U at*
    refine wpAnyH_take (i:=0) (oi:={dst:=some 33,op:=Op.load 24 (Operand.tmp 2),type:=24,pos:= "turns.go:23",after:=#[],guard:=none}) (v:=.agg #[.int .i64 (r:Nat),.int .i64 (c:Nat),.slice H N I]) rfl (by kernel_rfl) (by kernel_rfl) (by kernel_rfl) (fun _ _ _ h=>h) (Or.inl ⟨by rfl,?_⟩) (by assumption) ?_
    ·(intro w G;(try dsimp only at G);go_simp)
    simp only[Act.put,List.setIfInBounds_toArray,List.set_cons_zero,List.set_cons_succ]
    refine wpAnyH_take (i:=1) (oi:={dst:=some 34,op:=Op.load 24 (Operand.tmp 7),type:=24,pos:= "turns.go:23",after:=#[{on:=2,ground:=Ground.gcOnly Departure.lateStores}],guard:=none}) (v:=.agg #[.int .i64 (c:Nat),.int .i64 (c:Nat),.slice O M Q]) rfl (by kernel_rfl) (by kernel_rfl) (by kernel_rfl) (fun _ _ _ h=>h) (Or.inl ⟨by rfl,?_⟩) (by assumption) ?_
    ·(intro w G;(try dsimp only at G);go_simp)
    simp only[Act.put,List.setIfInBounds_toArray,List.set_cons_zero,List.set_cons_succ]
    refine wpAnyH_ready (rs:=[2]) (by kernel_rfl) (by simp) ?_
    refine AllReadyH.cons (o:={dst:=none,op:=Op.store 24 (Operand.tmp 4) (Operand.tmp 33),type:=0,pos:= "turns.go:23",after:=#[{on:=0,ground:=Ground.data},{on:=0,ground:=Ground.phase},{on:=1,ground:=Ground.textOnly Departure.lateStores}],guard:=none}) rfl (fun K Z=>?_) AllReadyH.nil
    go_simp
    refine Z.out _ _ ?_ (fun A=>?_)
    ·exact uH H1
    clear Z K
    refine wpAnyH_ready (rs:=[3]) (by kernel_rfl) (by simp) ?_
    refine AllReadyH.cons (o:={dst:=none,op:=Op.store 24 (Operand.tmp 5) (Operand.tmp 34),type:=0,pos:= "turns.go:23",after:=#[{on:=1,ground:=Ground.data},{on:=2,ground:=Ground.chain},{on:=0,ground:=Ground.phase},{on:=1,ground:=Ground.phase},{on:=2,ground:=Ground.phase}],guard:=none}) rfl (fun K Z=>?_) AllReadyH.nil
    go_simp
    refine Z.out _ _ ?_ (fun A=>?_)
    ·exact uH H2
    clear Z K
    refine wpAnyH_take (i:=4) (oi:={dst:=some 6,op:=Op.assign (Operand.const (Value.bool true)),type:=4,pos:= "turns.go:23",after:=#[{on:=3,ground:=Ground.chain},{on:=0,ground:=Ground.phase},{on:=1,ground:=Ground.phase},{on:=2,ground:=Ground.phase},{on:=3,ground:=Ground.phase}],guard:=none}) (v:=.bool true) rfl (by kernel_rfl) (by kernel_rfl) (by kernel_rfl) (fun _ _ _ h=>h) (Or.inl ⟨by rfl,?_⟩) (by assumption) ?_
    ·(intro w G;(try dsimp only at G);go_simp)
    simp only[Act.put,List.setIfInBounds_toArray,List.set_cons_zero,List.set_cons_succ]
    refine wpAnyH_done (by kernel_rfl) ?_ _
    skip
    go_wp2_with fail
    exact bodyPost_ret (v:=.tuple #[.agg #[.int .i64 r,.int .i64 c,.slice H N I],.agg #[.int .i64 c,.int .i64 c,.slice O M Q],.bool true]) (by simp[results,Tryz.results120,go_sem,a0,a1,a2,b0,b1,b2]) rfl ⟨⟨H,I,O,Q,by rw[uH EE,hs2],by rw[uH EE];exact(uH u).2.2.1,by rw[uH EE];exact(uH u).2.2.2.1,by rw[uH EE];exact(uH u).2.2.2.2.2⟩,(uH u).2.2.2.2.1⟩
  ·have a3:i=k:=by omega
   subst a3
   rw[←uH SW]at an D
   refine al (fun W=>mr w W g r c N M a4 z J wc L) (uH D) ?_
   clear D SW
   rintro V d
   have d:=d.all (Below.refl V.heap.size V).drew
   have y0:=d.bw.c0;have y1:=d.bw.c1;have y2:=d.bw.c2;have u0:=d.bv.c0;have u1:=d.bv.c1;have u2:=d.bv.c2
   have s0:=d.b4.c0;have s1:=d.b4.c1;have s2:=d.b4.c2;have f0:=d.b4.free 0;have f1:=d.b4.free 1;have f2:=d.b4.free 2
   have F:=d.b5.three (g:=w.heap.size+1) (by omega) (.int .i64 (r:Nat)) (.int .i64 (c:Nat)) (.slice z N wc)
   have t0:=F.c0;have t1:=F.c1;have t2:=F.c2;have g0:=F.free 0;have g1:=F.free 1;have g2:=F.free 2
   have u:=ac (d.out _ rfl)
   have a0:=(uH u).1.c0;have a1:=(uH u).1.c1;have a2:=(uH u).1.c2;have b0:=(uH u).2.1.c0;have b1:=(uH u).2.1.c1;have b2:=(uH u).2.1.c2
   have H0:=ac (And.intro y0 (And.intro y1 (And.intro y2 (And.intro u0 (And.intro u1 u2)))))
   have hg:=d.hg
   have YY:=(d.bw.three (g:=w.heap.size+1) (by omega) (.int .i64 (r:Nat)) (.int .i64 (c:Nat)) (.slice z N wc));have UU:=(d.bv.three (g:=w.heap.size+1) (by omega) (.int .i64 (r:Nat)) (.int .i64 (c:Nat)) (.slice z N wc))
   have H1:=ac (And.intro YY.c0 (And.intro YY.c1 (And.intro YY.c2 (And.intro UU.c0 (And.intro UU.c1 UU.c2)))))
   have Y2:=YY.three (g:=w.heap.size+1+1) (by omega) (.int .i64 (c:Nat)) (.int .i64 (c:Nat)) (.slice J M L);have U2:=UU.three (g:=w.heap.size+1+1) (by omega) (.int .i64 (c:Nat)) (.int .i64 (c:Nat)) (.slice J M L)
   have H2:=ac (And.intro Y2.c0 (And.intro Y2.c1 (And.intro Y2.c2 (And.intro U2.c0 (And.intro U2.c1 U2.c2)))))
   clear d F YY UU Y2 U2 hg
   go_wp2_with fail
   refine wp_region_held_drew (S:=fun X=>X.cell? ⟨w.heap.size,0,none⟩=some (.int .i64 (r:Nat))∧X.cell? ⟨w.heap.size,1,none⟩=some (.int .i64 (c:Nat))∧X.cell? ⟨w.heap.size,2,none⟩=some (.slice z N wc)∧X.cell? ⟨g,0,none⟩=some (.int .i64 (c:Nat))∧X.cell? ⟨g,1,none⟩=some (.int .i64 (c:Nat))∧X.cell? ⟨g,2,none⟩=some (.slice J M L)) (by kernel_rfl) ?_ (fun A=>?_)
   ·exact uH H0
   generalize V.drew=U at*
   refine wpAnyH_take (i:=0) (oi:={dst:=some 36,op:=Op.load 24 (Operand.tmp 2),type:=24,pos:= "turns.go:26",after:=#[],guard:=none}) (v:=.agg #[.int .i64 (r:Nat),.int .i64 (c:Nat),.slice z N wc]) rfl (by kernel_rfl) (by kernel_rfl) (by kernel_rfl) (fun _ _ _ h=>h) (Or.inl ⟨by rfl,?_⟩) (by assumption) ?_
   ·(intro w G;(try dsimp only at G);go_simp)
   simp only[Act.put,List.setIfInBounds_toArray,List.set_cons_zero,List.set_cons_succ]
   refine wpAnyH_take (i:=1) (oi:={dst:=some 37,op:=Op.load 24 (Operand.tmp 7),type:=24,pos:= "turns.go:26",after:=#[{on:=2,ground:=Ground.gcOnly Departure.lateStores}],guard:=none}) (v:=.agg #[.int .i64 (c:Nat),.int .i64 (c:Nat),.slice J M L]) rfl (by kernel_rfl) (by kernel_rfl) (by kernel_rfl) (fun _ _ _ h=>h) (Or.inl ⟨by rfl,?_⟩) (by assumption) ?_
   ·(intro w G;(try dsimp only at G);go_simp)
   simp only[Act.put,List.setIfInBounds_toArray,List.set_cons_zero,List.set_cons_succ]
   refine wpAnyH_ready (rs:=[2]) (by kernel_rfl) (by simp) ?_
   refine AllReadyH.cons (o:={dst:=none,op:=Op.store 24 (Operand.tmp 4) (Operand.tmp 36),type:=0,pos:= "turns.go:26",after:=#[{on:=0,ground:=Ground.data},{on:=0,ground:=Ground.phase},{on:=1,ground:=Ground.textOnly Departure.lateStores}],guard:=none}) rfl (fun K Z=>?_) AllReadyH.nil
   go_simp
   refine Z.out _ _ ?_ (fun A=>?_)
   ·exact uH H1
   clear Z K
   refine wpAnyH_ready (rs:=[3]) (by kernel_rfl) (by simp) ?_
   refine AllReadyH.cons (o:={dst:=none,op:=Op.store 24 (Operand.tmp 5) (Operand.tmp 37),type:=0,pos:= "turns.go:26",after:=#[{on:=1,ground:=Ground.data},{on:=2,ground:=Ground.chain},{on:=0,ground:=Ground.phase},{on:=1,ground:=Ground.phase},{on:=2,ground:=Ground.phase}],guard:=none}) rfl (fun K Z=>?_) AllReadyH.nil
   go_simp
   refine Z.out _ _ ?_ (fun A=>?_)
   ·exact uH H2
   clear Z K
   refine wpAnyH_take (i:=4) (oi:={dst:=some 6,op:=Op.assign (Operand.const (Value.bool false)),type:=4,pos:= "turns.go:26",after:=#[{on:=3,ground:=Ground.chain},{on:=0,ground:=Ground.phase},{on:=1,ground:=Ground.phase},{on:=2,ground:=Ground.phase},{on:=3,ground:=Ground.phase}],guard:=none}) (v:=.bool false) rfl (by kernel_rfl) (by kernel_rfl) (by kernel_rfl) (fun _ _ _ h=>h) (Or.inl ⟨by rfl,?_⟩) (by assumption) ?_
   ·(intro w G;(try dsimp only at G);go_simp)
   simp only[Act.put,List.setIfInBounds_toArray,List.set_cons_zero,List.set_cons_succ]
   refine wpAnyH_done (by kernel_rfl) ?_ _
   skip
   go_wp2_with fail
   exact bodyPost_ret (v:=.tuple #[.agg #[.int .i64 r,.int .i64 c,.slice z N wc],.agg #[.int .i64 c,.int .i64 c,.slice J M L],.bool false]) (by simp[results,Tryz.results120,go_sem,a0,a1,a2,b0,b1,b2]) rfl ⟨⟨z,wc,J,L,by rw[an],(uH u).2.2.1,(uH u).2.2.2.1,(uH u).2.2.2.2.2⟩,(uH u).2.2.2.2.1⟩
def uj(f:Nat→Bool):Nat→Nat
 |0=>0
 |j+1=>if f j=true then uj f j else j+1
theorem wy(f:Nat→Bool):∀j,uj f j≤j
 |0=>Nat.le_refl _
 |j+1=>by
  unfold uj
  split
  ·exact Nat.le_succ_of_le (wy f j)
  ·exact Nat.le_refl _
theorem DB(f:Nat→Bool):∀n j,uj f n≤j→j<n→f j=true
 |0,j,_,h=>absurd h (Nat.not_lt_zero _)
 |n+1,j,h1,h2=>by
  unfold uj at h1
  split at h1
  ·rename_i d
   rcases Nat.lt_or_ge j n with e|e
   ·exact DB f n j h1 e
   ·obtain rfl:j=n:=by omega
    exact d
  ·omega
theorem xP(f:Nat→Bool):∀n,0<uj f n→f (uj f n-1)=false
 |0,h=>absurd h (Nat.not_lt_zero _)
 |n+1,h=>by
  unfold uj at h⊢
  split at h
  ·rename_i d
   rw[if_pos d]
   exact xP f n h
  ·rename_i d
   rw[if_neg d]
   exact Bool.eq_false_iff.2 d
def ev(I:List Nat):Nat→List Nat
 |0=>[]
 |i+1=>(ev I i).take (uj (fun j=>ku (I.getD ((ev I i).getD j 0) 0) (I.getD i 0)) i)++i::(ev I i).drop (uj (fun j=>ku (I.getD ((ev I i).getD j 0) 0) (I.getD i 0)) i)
def DC(I:List Nat)(i j:Nat):Bool:=ku (I.getD ((ev I i).getD j 0) 0) (I.getD i 0)
def wz(n:Nat)(I:List Nat)(i j:Nat):List Nat:=(ev I i).take j++i::((ev I i).drop j++(List.range n).drop (i+1))
theorem fH(I:List Nat):∀i,(ev I i).length=i
 |0=>rfl
 |i+1=>by
  have h:=fH I i
  have d:=wy (fun j=>ku (I.getD ((ev I i).getD j 0) 0) (I.getD i 0)) i
  unfold ev
  simp only[List.length_append,List.length_take,List.length_cons,List.length_drop,h]
  omega
theorem li(I:List Nat):∀i,∀x∈ev I i,x<i
 |0,x,h=>by cases h
 |i+1,x,h=>by
  have d:=li I i
  unfold ev at h
  rcases List.mem_append.1 h with e|e
  ·exact Nat.lt_succ_of_lt (d x (List.mem_of_mem_take e))
  ·rcases List.mem_cons.1 e with e|e
   ·omega
   ·exact Nat.lt_succ_of_lt (d x (List.mem_of_mem_drop e))
theorem GH{n:Nat}(I:List Nat){i j:Nat}(d:i<n)(h:j≤i):(wz n I i j).length=n:=by
 unfold wz
 simp only[List.length_append,List.length_take,List.length_cons,List.length_drop,fH,List.length_range]
 omega
theorem GI(A B:List Nat)(x y:Nat):((A++x::y::B).set (A.length+1) x).set A.length y=A++y::x::B:=by
 induction A with
 |nil=>rfl
 |cons a A ih=>simp only[List.cons_append,List.length_cons,List.set_cons_succ,ih]
theorem JO(A B:List Nat)(x y:Nat):(A++x::y::B)[A.length+1]?.getD 0=y∧(A++x::y::B)[A.length]?.getD 0=x:=by
 induction A with
 |nil=>exact⟨rfl,rfl⟩
 |cons a A ih=>simpa only[List.cons_append,List.length_cons,List.getElem?_cons_succ]using ih
theorem DE{n:Nat}(I:List Nat){i j:Nat}(D:j<i):(wz n I i (j+1))[j+1]?.getD 0=i∧(wz n I i (j+1))[j]?.getD 0=(ev I i).getD j 0∧((wz n I i (j+1)).set (j+1) ((ev I i).getD j 0)).set j i=wz n I i j:=by
 have F:=fH I i
 have d:(ev I i).take (j+1)=(ev I i).take j++[(ev I i).getD j 0]:=by
  rw[List.take_add_one,List.getD_eq_getElem?_getD,List.getElem?_eq_getElem (by omega)]
  rfl
 have h:(ev I i).drop j=(ev I i).getD j 0::(ev I i).drop (j+1):=by
  rw[List.drop_eq_getElem_cons (by omega),List.getD_eq_getElem?_getD,List.getElem?_eq_getElem (by omega)]
  rfl
 have u:((ev I i).take j).length=j:=by rw[List.length_take];omega
 have z:wz n I i (j+1)=(ev I i).take j++(ev I i).getD j 0::i::((ev I i).drop (j+1)++(List.range n).drop (i+1)):=by
  unfold wz
  rw[d,List.append_assoc]
  rfl
 have A:wz n I i j=(ev I i).take j++i::(ev I i).getD j 0::((ev I i).drop (j+1)++(List.range n).drop (i+1)):=by
  unfold wz
  rw[h]
  rfl
 have a:=JO ((ev I i).take j) ((ev I i).drop (j+1)++(List.range n).drop (i+1)) ((ev I i).getD j 0) i
 have b:=GI ((ev I i).take j) ((ev I i).drop (j+1)++(List.range n).drop (i+1)) ((ev I i).getD j 0) i
 rw[u,←z]at a b
 rw[←A]at b
 exact⟨a.1,a.2,b⟩
theorem wA(n i:Nat)(h:i<n):(List.range n).drop i=i::(List.range n).drop (i+1):=by
 rw[List.drop_eq_getElem_cons (by simpa using h)]
 simp
def GJ(n:Nat)(I:List Nat)(i:Nat):List Nat:=ev I i++(List.range n).drop i
theorem wB{n:Nat}(I:List Nat){i:Nat}(d:i<n):GJ n I i=wz n I i i:=by
 unfold GJ wz
 have h:(ev I i).take i=ev I i:=List.take_of_length_le (by rw[fH];exact Nat.le_refl _)
 have u:(ev I i).drop i= []:=List.drop_of_length_le (by rw[fH];exact Nat.le_refl _)
 rw[wA n i d,h,u]
 rfl
theorem rp(n:Nat)(I:List Nat)(i:Nat):wz n I i (uj (DC I i) i)=GJ n I (i+1):=by
 unfold GJ wz
 rw[show ev I (i+1)=(ev I i).take (uj (DC I i) i)++i::(ev I i).drop (uj (DC I i) i)from rfl]
 simp
theorem Lq(n:Nat)(I:List Nat):GJ n I 0=List.range n:=by unfold GJ ev;simp
theorem uk(n:Nat)(I:List Nat):GJ n I n=ev I n:=by unfold GJ;simp
theorem Hq{n:Nat}(I:List Nat)(d:0<n):GJ n I 1=List.range n:=by
 rw[←Lq n I,wB I d,←rp]
 rfl
theorem DF(n g fn:Nat)(F:Array Value)(A:Nat→Nat→List Nat)(P:Nat→Nat→Nat)(J:Nat→Nat)(o:Nat→Nat→Int)(w:World)(h6:n≤1000)(hn:0<n)
  (az:∀args w,(callFunc fn args).run Tryz.prog w=.ok (.enter fn args) w)
  (hA:∀i j,i<n→j≤i→(A i j).length=n)
  (hP:∀i j,i<n→j<i→(A i (j+1))[j+1]?.getD 0=i∧(A i (j+1))[j]?.getD 0=P i j∧((A i (j+1)).set (j+1) (P i j)).set j i=A i j∧P i j<n)
  (hJ:∀i,i<n→J i≤i∧(∀j,J i≤j→j<i→o i (P i j)<0)∧∀j,J i=j+1→¬o i (P i j)<0)
  (hN:∀i,i+1<n→A i (J i)=A (i+1) (i+1)) (E:List Nat) (hE:∀i,i+1=n→A i (J i)=E) (hR:1<n→bK w g (A 1 1)) (aa:n=1→bK w g E)
  (C:∀D,w.grownBy D (some g)→∀x y,x<n→y<n→Calls Tryz.prog fn (#[.int .i64 (x:Nat),.int .i64 (y:Nat)]++F) D fun e an=>e=.returned (.int .i64 (o x y))∧Below D.heap.size D an):
  Calls Tryz.prog 246 #[.slice (some ⟨g,0,none⟩) n n,.int .i64 0,.int .i64 n,.func (.func fn) #[] F] w fun e D=>e=.returned (.tuple #[])∧bK D g E∧w.grownBy D (some g):=by
 have KC:=ac C;have KA:=ac hA;have KP:=ac hP;have KJ:=ac hJ;have KN:=ac hN;have KE:=ac hE
 have RR:=ac (show bK w g (if n=1 then E else A 1 1)from by
  by_cases e:n=1
  ·rw[if_pos e];exact aa e
  ·rw[if_neg e];exact hR (by omega))
 have G0:=ac (cC (Below.refl w.heap.size w) (some g))
 clear C hA hP hJ hN hE hR aa
 go_enter Tryz.func246,Tryz.ntmps246
 go_wp2_with fail
 go_loopw[8] (fun a wr=>∃i:Nat,0<i∧i≤n∧a=.int .i64 i∧Hid (bK wr g (if n=i then E else A i i))∧Hid (w.grownBy wr (some g))) (fun a _=>n-(intOf a).toNat)
 case atStart=>exact⟨1,by omega,by omega,rfl,RR,G0⟩
 case round=>
  clear RR G0
  obtain⟨i,h0,hi,rfl,O,U⟩:=hrel
  by_cases I:i<n
  ·have aI:(i:Int)<(n:Int):=by omega
   have L:=ac (show bK wr g (A i i)from by have:=uH O;rwa[if_neg (by omega)]at this)
   clear O
   obtain⟨j1,j2,j3⟩:=uH KJ i I
   have J1:=ac j1;have J2:=ac j2;have J3:=ac j3
   clear j1 j2 j3
   go_wp2_with fail
   go_loopw[9] (fun a wq=>∃j:Nat,J i≤j∧j≤i∧a=.int .i64 j∧Hid (bK wq g (A i j))∧Hid (w.grownBy wq (some g))) (fun a _=>(intOf a).toNat)
   case atStart=>exact⟨i,uH J1,Nat.le_refl _,rfl,L,U⟩
   case round=>
    clear L U
    obtain⟨m,h2,h3,rfl,O,U⟩:=hrel
    rcases Nat.eq_zero_or_pos m with hz|hz
    ·subst hz
     have ae:J i=0:=by omega
     have ao:=ac (cz (uH U) (cC ((Below.refl wr.heap.size wr).drew) (some g)))
     have X:=ac (show bK _ g (if n=i+1 then E else A (i+1) (i+1))from by
      have:=uH O
      by_cases e:n=i+1
      ·rw[if_pos e,←uH KE i e.symm,ae];exact this
      ·rw[if_neg e,←uH KN i (by omega),ae];exact this)
     clear O U J2 J3
     rw[show((0:Nat):Int)=0 from rfl]
     go_wp2_with fail
     refine wp_region_held_drew (S:=fun D=>True) (by kernel_rfl) ?_ (fun u=>?_)
     ·exact trivial
     refine wpAnyH_take (i:=0) (oi:={dst:=some 18,op:=Op.move (Operand.tmp 9),type:=3,pos:= "zsortanyfunc.go:12",after:=#[],guard:=none}) (v:=.int .i64 0) rfl (by kernel_rfl) (by kernel_rfl) (by kernel_rfl) (fun _ _ _ h=>h) (Or.inl ⟨by rfl,?_⟩) (by assumption) ?_
     ·(intro w d;(try dsimp only at d);go_simp)
     simp only[Act.put,List.setIfInBounds_toArray,List.set_cons_zero,List.set_cons_succ]
     refine wpAnyH_take (i:=1) (oi:={dst:=some 19,op:=Op.move (Operand.tmp 1),type:=3,pos:= "zsortanyfunc.go:12",after:=#[],guard:=none}) (v:=.int .i64 0) rfl (by kernel_rfl) (by kernel_rfl) (by kernel_rfl) (fun _ _ _ h=>h) (Or.inl ⟨by rfl,?_⟩) (by assumption) ?_
     ·(intro w d;(try dsimp only at d);go_simp)
     simp only[Act.put,List.setIfInBounds_toArray,List.set_cons_zero,List.set_cons_succ]
     refine wpAnyH_take (i:=2) (oi:={dst:=some 20,op:=Op.binOp BinOp.gtr 3 (Operand.tmp 18) (Operand.tmp 19) 3,type:=4,pos:= "zsortanyfunc.go:12",after:=#[{on:=0,ground:=Ground.data},{on:=1,ground:=Ground.data}],guard:=none}) (v:=.bool false) rfl (by kernel_rfl) (by kernel_rfl) (by kernel_rfl) (fun _ _ _ h=>h) (Or.inl ⟨by rfl,?_⟩) (by assumption) ?_
     ·(intro w d;(try dsimp only at d);go_simp)
     simp only[Act.put,List.setIfInBounds_toArray,List.set_cons_zero,List.set_cons_succ]
     refine wpAnyH_take (i:=3) (oi:={dst:=some 21,op:=Op.move (Operand.tmp 20),type:=4,pos:= "zsortanyfunc.go:12",after:=#[{on:=2,ground:=Ground.data}],guard:=none}) (v:=.bool false) rfl (by kernel_rfl) (by kernel_rfl) (by kernel_rfl) (fun _ _ _ h=>h) (Or.inl ⟨by rfl,?_⟩) (by assumption) ?_
     ·(intro w d;(try dsimp only at d);go_simp)
     simp only[Act.put,List.setIfInBounds_toArray,List.set_cons_zero,List.set_cons_succ]
     refine wpAnyH_take (i:=4) (oi:={dst:=some 22,op:=Op.move (Operand.tmp 3),type:=164,pos:= "zsortanyfunc.go:12",after:=#[{on:=3,ground:=Ground.guard}],guard:=some (3,true)}) (v:=undef) rfl (by kernel_rfl) (by kernel_rfl) (by kernel_rfl) (fun _ _ _ h=>h) (Or.inr ⟨by rfl,rfl⟩) (by assumption) ?_
     simp only[Act.put,List.setIfInBounds_toArray,List.set_cons_zero,List.set_cons_succ]
     refine wpAnyH_take (i:=5) (oi:={dst:=some 23,op:=Op.move (Operand.tmp 0),type:=126,pos:= "zsortanyfunc.go:12",after:=#[{on:=3,ground:=Ground.guard}],guard:=some (3,true)}) (v:=undef) rfl (by kernel_rfl) (by kernel_rfl) (by kernel_rfl) (fun _ _ _ h=>h) (Or.inr ⟨by rfl,rfl⟩) (by assumption) ?_
     simp only[Act.put,List.setIfInBounds_toArray,List.set_cons_zero,List.set_cons_succ]
     refine wpAnyH_take (i:=6) (oi:={dst:=some 24,op:=Op.move (Operand.tmp 9),type:=3,pos:= "zsortanyfunc.go:12",after:=#[{on:=3,ground:=Ground.guard}],guard:=some (3,true)}) (v:=undef) rfl (by kernel_rfl) (by kernel_rfl) (by kernel_rfl) (fun _ _ _ h=>h) (Or.inr ⟨by rfl,rfl⟩) (by assumption) ?_
     simp only[Act.put,List.setIfInBounds_toArray,List.set_cons_zero,List.set_cons_succ]
     refine wpAnyH_take (i:=7) (oi:={dst:=some 25,op:=Op.indexAddr 126 (Operand.tmp 23) (Operand.tmp 24),type:=0,pos:= "zsortanyfunc.go:12",after:=#[{on:=5,ground:=Ground.data},{on:=6,ground:=Ground.data},{on:=3,ground:=Ground.guard}],guard:=some (3,true)}) (v:=undef) rfl (by kernel_rfl) (by kernel_rfl) (by kernel_rfl) (fun _ _ _ h=>h) (Or.inr ⟨by rfl,rfl⟩) (by assumption) ?_
     simp only[Act.put,List.setIfInBounds_toArray,List.set_cons_zero,List.set_cons_succ]
     refine wpAnyH_take (i:=8) (oi:={dst:=some 26,op:=Op.load 3 (Operand.tmp 25),type:=3,pos:= "zsortanyfunc.go:12",after:=#[{on:=7,ground:=Ground.data},{on:=3,ground:=Ground.guard}],guard:=some (3,true)}) (v:=undef) rfl (by kernel_rfl) (by kernel_rfl) (by kernel_rfl) (fun _ _ _ h=>h) (Or.inr ⟨by rfl,rfl⟩) (by assumption) ?_
     simp only[Act.put,List.setIfInBounds_toArray,List.set_cons_zero,List.set_cons_succ]
     refine wpAnyH_take (i:=9) (oi:={dst:=some 27,op:=Op.move (Operand.tmp 0),type:=126,pos:= "zsortanyfunc.go:12",after:=#[{on:=3,ground:=Ground.guard}],guard:=some (3,true)}) (v:=undef) rfl (by kernel_rfl) (by kernel_rfl) (by kernel_rfl) (fun _ _ _ h=>h) (Or.inr ⟨by rfl,rfl⟩) (by assumption) ?_
     simp only[Act.put,List.setIfInBounds_toArray,List.set_cons_zero,List.set_cons_succ]
     refine wpAnyH_take (i:=10) (oi:={dst:=some 28,op:=Op.move (Operand.tmp 9),type:=3,pos:= "zsortanyfunc.go:12",after:=#[{on:=3,ground:=Ground.guard}],guard:=some (3,true)}) (v:=undef) rfl (by kernel_rfl) (by kernel_rfl) (by kernel_rfl) (fun _ _ _ h=>h) (Or.inr ⟨by rfl,rfl⟩) (by assumption) ?_
     simp only[Act.put,List.setIfInBounds_toArray,List.set_cons_zero,List.set_cons_succ]
     refine wpAnyH_take (i:=11) (oi:={dst:=some 29,op:=Op.binOp BinOp.sub 3 (Operand.tmp 28) (Operand.const (Value.int IntKind.i64 1)) 3,type:=3,pos:= "zsortanyfunc.go:12",after:=#[{on:=10,ground:=Ground.data},{on:=3,ground:=Ground.guard}],guard:=some (3,true)}) (v:=undef) rfl (by kernel_rfl) (by kernel_rfl) (by kernel_rfl) (fun _ _ _ h=>h) (Or.inr ⟨by rfl,rfl⟩) (by assumption) ?_
     simp only[Act.put,List.setIfInBounds_toArray,List.set_cons_zero,List.set_cons_succ]
     refine wpAnyH_take (i:=12) (oi:={dst:=some 30,op:=Op.indexAddr 126 (Operand.tmp 27) (Operand.tmp 29),type:=0,pos:= "zsortanyfunc.go:12",after:=#[{on:=9,ground:=Ground.data},{on:=11,ground:=Ground.data},{on:=3,ground:=Ground.guard}],guard:=some (3,true)}) (v:=undef) rfl (by kernel_rfl) (by kernel_rfl) (by kernel_rfl) (fun _ _ _ h=>h) (Or.inr ⟨by rfl,rfl⟩) (by assumption) ?_
     simp only[Act.put,List.setIfInBounds_toArray,List.set_cons_zero,List.set_cons_succ]
     refine wpAnyH_take (i:=13) (oi:={dst:=some 31,op:=Op.load 3 (Operand.tmp 30),type:=3,pos:= "zsortanyfunc.go:12",after:=#[{on:=12,ground:=Ground.data},{on:=3,ground:=Ground.guard}],guard:=some (3,true)}) (v:=undef) rfl (by kernel_rfl) (by kernel_rfl) (by kernel_rfl) (fun _ _ _ h=>h) (Or.inr ⟨by rfl,rfl⟩) (by assumption) ?_
     simp only[Act.put,List.setIfInBounds_toArray,List.set_cons_zero,List.set_cons_succ]
     refine wpAnyH_take (i:=14) (oi:={dst:=some 32,op:=Op.call {callee:=Callee.value (Operand.tmp 22),args:=#[Operand.tmp 26,Operand.tmp 31],argTypes:=#[3,3]},type:=3,pos:= "zsortanyfunc.go:12",after:=#[{on:=4,ground:=Ground.data},{on:=8,ground:=Ground.data},{on:=13,ground:=Ground.data},{on:=3,ground:=Ground.chain},{on:=3,ground:=Ground.guard}],guard:=some (3,true)}) (v:=undef) rfl (by kernel_rfl) (by kernel_rfl) (by kernel_rfl) (fun _ _ _ h=>h) (Or.inr ⟨by rfl,rfl⟩) (by assumption) ?_
     simp only[Act.put,List.setIfInBounds_toArray,List.set_cons_zero,List.set_cons_succ]
     refine wpAnyH_take (i:=15) (oi:={dst:=some 33,op:=Op.binOp BinOp.lss 3 (Operand.tmp 32) (Operand.const (Value.int IntKind.i64 0)) 3,type:=4,pos:= "zsortanyfunc.go:12",after:=#[{on:=14,ground:=Ground.data},{on:=3,ground:=Ground.guard}],guard:=some (3,true)}) (v:=undef) rfl (by kernel_rfl) (by kernel_rfl) (by kernel_rfl) (fun _ _ _ h=>h) (Or.inr ⟨by rfl,rfl⟩) (by assumption) ?_
     simp only[Act.put,List.setIfInBounds_toArray,List.set_cons_zero,List.set_cons_succ]
     refine wpAnyH_take (i:=16) (oi:={dst:=some 34,op:=Op.pick (Operand.tmp 21) (Operand.tmp 33) (Operand.const (Value.bool false)),type:=4,pos:= "zsortanyfunc.go:12",after:=#[{on:=3,ground:=Ground.data},{on:=15,ground:=Ground.data}],guard:=none}) (v:=.bool false) rfl (by kernel_rfl) (by kernel_rfl) (by kernel_rfl) (fun _ _ _ h=>h) (Or.inl ⟨by rfl,?_⟩) (by assumption) ?_
     ·(intro w d;(try dsimp only at d);go_simp)
     simp only[Act.put,List.setIfInBounds_toArray,List.set_cons_zero,List.set_cons_succ]
     refine wpAnyH_done (by kernel_rfl) ?_ _
     go_wp2_with fail
     go_round
     case rel=>exact⟨i+1,by omega,by omega,by go_num,X,ao⟩
     case measure=>simp[intOf];omega
    ·obtain⟨j,hj⟩:∃j,m=j+1:=⟨m-1,by omega⟩
     have Y:j<i:=by omega
     have a0:(0:Int)<(m:Int):=by omega
     have a1:(m:Int)<(n:Int):=by omega
     have a2:(j:Int)<(n:Int):=by omega
     have e1:IntKind.i64.wrap ((m:Int)-1)=(j:Int):=(d7 _ (by omega)).trans (by omega)
     have e2:(m:Int)-1=(j:Int):=by omega
     have e3:IntKind.i64.wrap (j:Int)=(j:Int):=d7 _ (by omega)
     obtain⟨p1,p2,p3,p4⟩:=uH KP i j I Y
     have KO:=ac (show o i (P i j)<0↔J i≤j from by
      constructor
      ·intro q
       rcases Nat.lt_or_ge j (J i)with z|z
       ·have:=uH J3 j (by omega)
        exact absurd q (by omega)
       ·exact z
      ·intro q
       exact uH J2 j q Y)
     have N:=ac (fun D G=>uH KC D G i (P i j) I p4)
     rw[←hj]at p1 p2 p3
     have S2:=ac (show∀W,bK W g (A i m)→bK ((W.setCell ⟨g,m,none⟩ (.int .i64 (P i j:Nat))).setCell ⟨g,j,none⟩ (.int .i64 (i:Nat))) g (A i j)from fun W h=>by
      have:=(h.set m (P i j)).set j i
      rwa[p3]at this)
     have LA:=ac (uH KA i m I h3)
     have PP:=ac (And.intro p1 p2)
     generalize hx:P i j=y at*
     generalize ax:o i y=ov at*
     clear p1 p2 p3 p4 J2 J3 hx ax
     have HJ:=ac hj;have a3:=ac Y
     clear hj
     refine al (fun W=>bK W g (A i m)∧w.grownBy W (some g)) ⟨uH O,uH U⟩ ?_
     clear O U
     rintro W ⟨H,hg⟩
     have Z:=ac (show W.cell? ⟨g,m,none⟩=some (.int .i64 (i:Nat))∧W.cell? ⟨g,j,none⟩=some (.int .i64 (y:Nat))from by
      have c1:=H.cell m (by rw[uH LA];omega)
      have c2:=H.cell j (by rw[uH LA];omega)
      rw[(uH PP).1]at c1
      rw[(uH PP).2]at c2
      exact⟨c1,c2⟩)
     have Q:=ac (show W.drew.cell? ⟨g,m,none⟩=some (.int .i64 (i:Nat))∧W.drew.cell? ⟨g,j,none⟩=some (.int .i64 (y:Nat))from uH Z)
     have HS:=ac (show bK W.drew g (A i m)from H)
     have HG:=ac (cz hg (cC (Below.refl W.heap.size W).drew (some g)))
     clear H hg
     go_wp2_with fail
     by_cases ah:J i≤j
     ·have hO:ov<0:=(uH KO).2 ah
      refine wp_region_held_drew (S:=fun D=>D.cell? ⟨g,m,none⟩=some (.int .i64 (i:Nat))∧D.cell? ⟨g,j,none⟩=some (.int .i64 (y:Nat))) (by kernel_rfl) ?_ (fun u=>?_)
      ·exact uH Q
      refine wpAnyH_take (i:=0) (oi:={dst:=some 18,op:=Op.move (Operand.tmp 9),type:=3,pos:= "zsortanyfunc.go:12",after:=#[],guard:=none}) (v:=.int .i64 (m:Nat)) rfl (by kernel_rfl) (by kernel_rfl) (by kernel_rfl) (fun _ _ _ h=>h) (Or.inl ⟨by rfl,?_⟩) (by assumption) ?_
      ·(intro w d;(try dsimp only at d);go_simp)
      simp only[Act.put,List.setIfInBounds_toArray,List.set_cons_zero,List.set_cons_succ]
      refine wpAnyH_take (i:=1) (oi:={dst:=some 19,op:=Op.move (Operand.tmp 1),type:=3,pos:= "zsortanyfunc.go:12",after:=#[],guard:=none}) (v:=.int .i64 0) rfl (by kernel_rfl) (by kernel_rfl) (by kernel_rfl) (fun _ _ _ h=>h) (Or.inl ⟨by rfl,?_⟩) (by assumption) ?_
      ·(intro w d;(try dsimp only at d);go_simp)
      simp only[Act.put,List.setIfInBounds_toArray,List.set_cons_zero,List.set_cons_succ]
      refine wpAnyH_take (i:=2) (oi:={dst:=some 20,op:=Op.binOp BinOp.gtr 3 (Operand.tmp 18) (Operand.tmp 19) 3,type:=4,pos:= "zsortanyfunc.go:12",after:=#[{on:=0,ground:=Ground.data},{on:=1,ground:=Ground.data}],guard:=none}) (v:=.bool true) rfl (by kernel_rfl) (by kernel_rfl) (by kernel_rfl) (fun _ _ _ h=>h) (Or.inl ⟨by rfl,?_⟩) (by assumption) ?_
      ·(intro w d;(try dsimp only at d);go_simp)
      simp only[Act.put,List.setIfInBounds_toArray,List.set_cons_zero,List.set_cons_succ]
      refine wpAnyH_take (i:=3) (oi:={dst:=some 21,op:=Op.move (Operand.tmp 20),type:=4,pos:= "zsortanyfunc.go:12",after:=#[{on:=2,ground:=Ground.data}],guard:=none}) (v:=.bool true) rfl (by kernel_rfl) (by kernel_rfl) (by kernel_rfl) (fun _ _ _ h=>h) (Or.inl ⟨by rfl,?_⟩) (by assumption) ?_
      ·(intro w d;(try dsimp only at d);go_simp)
      simp only[Act.put,List.setIfInBounds_toArray,List.set_cons_zero,List.set_cons_succ]
      refine wpAnyH_take (i:=4) (oi:={dst:=some 22,op:=Op.move (Operand.tmp 3),type:=164,pos:= "zsortanyfunc.go:12",after:=#[{on:=3,ground:=Ground.guard}],guard:=some (3,true)}) (v:=.func (.func fn) #[] F) rfl (by kernel_rfl) (by kernel_rfl) (by kernel_rfl) (fun _ _ _ h=>h) (Or.inl ⟨by rfl,?_⟩) (by assumption) ?_
      ·(intro w d;(try dsimp only at d);go_simp)
      simp only[Act.put,List.setIfInBounds_toArray,List.set_cons_zero,List.set_cons_succ]
      refine wpAnyH_take (i:=5) (oi:={dst:=some 23,op:=Op.move (Operand.tmp 0),type:=126,pos:= "zsortanyfunc.go:12",after:=#[{on:=3,ground:=Ground.guard}],guard:=some (3,true)}) (v:=.slice (some ⟨g,0,none⟩) n n) rfl (by kernel_rfl) (by kernel_rfl) (by kernel_rfl) (fun _ _ _ h=>h) (Or.inl ⟨by rfl,?_⟩) (by assumption) ?_
      ·(intro w d;(try dsimp only at d);go_simp)
      simp only[Act.put,List.setIfInBounds_toArray,List.set_cons_zero,List.set_cons_succ]
      refine wpAnyH_take (i:=6) (oi:={dst:=some 24,op:=Op.move (Operand.tmp 9),type:=3,pos:= "zsortanyfunc.go:12",after:=#[{on:=3,ground:=Ground.guard}],guard:=some (3,true)}) (v:=.int .i64 (m:Nat)) rfl (by kernel_rfl) (by kernel_rfl) (by kernel_rfl) (fun _ _ _ h=>h) (Or.inl ⟨by rfl,?_⟩) (by assumption) ?_
      ·(intro w d;(try dsimp only at d);go_simp)
      simp only[Act.put,List.setIfInBounds_toArray,List.set_cons_zero,List.set_cons_succ]
      refine wpAnyH_take (i:=7) (oi:={dst:=some 25,op:=Op.indexAddr 126 (Operand.tmp 23) (Operand.tmp 24),type:=0,pos:= "zsortanyfunc.go:12",after:=#[{on:=5,ground:=Ground.data},{on:=6,ground:=Ground.data},{on:=3,ground:=Ground.guard}],guard:=some (3,true)}) (v:=.pointer (some ⟨g,m,none⟩)) rfl (by kernel_rfl) (by kernel_rfl) (by kernel_rfl) (fun _ _ _ h=>h) (Or.inl ⟨by rfl,?_⟩) (by assumption) ?_
      ·(intro w d;(try dsimp only at d);go_simp)
      simp only[Act.put,List.setIfInBounds_toArray,List.set_cons_zero,List.set_cons_succ]
      refine wpAnyH_take (i:=8) (oi:={dst:=some 26,op:=Op.load 3 (Operand.tmp 25),type:=3,pos:= "zsortanyfunc.go:12",after:=#[{on:=7,ground:=Ground.data},{on:=3,ground:=Ground.guard}],guard:=some (3,true)}) (v:=.int .i64 (i:Nat)) rfl (by kernel_rfl) (by kernel_rfl) (by kernel_rfl) (fun _ _ _ h=>h) (Or.inl ⟨by rfl,?_⟩) (by assumption) ?_
      ·(intro w d;(try dsimp only at d);go_simp)
      simp only[Act.put,List.setIfInBounds_toArray,List.set_cons_zero,List.set_cons_succ]
      refine wpAnyH_take (i:=9) (oi:={dst:=some 27,op:=Op.move (Operand.tmp 0),type:=126,pos:= "zsortanyfunc.go:12",after:=#[{on:=3,ground:=Ground.guard}],guard:=some (3,true)}) (v:=.slice (some ⟨g,0,none⟩) n n) rfl (by kernel_rfl) (by kernel_rfl) (by kernel_rfl) (fun _ _ _ h=>h) (Or.inl ⟨by rfl,?_⟩) (by assumption) ?_
      ·(intro w d;(try dsimp only at d);go_simp)
      simp only[Act.put,List.setIfInBounds_toArray,List.set_cons_zero,List.set_cons_succ]
      refine wpAnyH_take (i:=10) (oi:={dst:=some 28,op:=Op.move (Operand.tmp 9),type:=3,pos:= "zsortanyfunc.go:12",after:=#[{on:=3,ground:=Ground.guard}],guard:=some (3,true)}) (v:=.int .i64 (m:Nat)) rfl (by kernel_rfl) (by kernel_rfl) (by kernel_rfl) (fun _ _ _ h=>h) (Or.inl ⟨by rfl,?_⟩) (by assumption) ?_
      ·(intro w d;(try dsimp only at d);go_simp)
      simp only[Act.put,List.setIfInBounds_toArray,List.set_cons_zero,List.set_cons_succ]
      refine wpAnyH_take (i:=11) (oi:={dst:=some 29,op:=Op.binOp BinOp.sub 3 (Operand.tmp 28) (Operand.const (Value.int IntKind.i64 1)) 3,type:=3,pos:= "zsortanyfunc.go:12",after:=#[{on:=10,ground:=Ground.data},{on:=3,ground:=Ground.guard}],guard:=some (3,true)}) (v:=.int .i64 (j:Nat)) rfl (by kernel_rfl) (by kernel_rfl) (by kernel_rfl) (fun _ _ _ h=>h) (Or.inl ⟨by rfl,?_⟩) (by assumption) ?_
      ·(intro w d;(try dsimp only at d);go_simp)
      simp only[Act.put,List.setIfInBounds_toArray,List.set_cons_zero,List.set_cons_succ]
      refine wpAnyH_take (i:=12) (oi:={dst:=some 30,op:=Op.indexAddr 126 (Operand.tmp 27) (Operand.tmp 29),type:=0,pos:= "zsortanyfunc.go:12",after:=#[{on:=9,ground:=Ground.data},{on:=11,ground:=Ground.data},{on:=3,ground:=Ground.guard}],guard:=some (3,true)}) (v:=.pointer (some ⟨g,j,none⟩)) rfl (by kernel_rfl) (by kernel_rfl) (by kernel_rfl) (fun _ _ _ h=>h) (Or.inl ⟨by rfl,?_⟩) (by assumption) ?_
      ·(intro w d;(try dsimp only at d);go_simp)
      simp only[Act.put,List.setIfInBounds_toArray,List.set_cons_zero,List.set_cons_succ]
      refine wpAnyH_take (i:=13) (oi:={dst:=some 31,op:=Op.load 3 (Operand.tmp 30),type:=3,pos:= "zsortanyfunc.go:12",after:=#[{on:=12,ground:=Ground.data},{on:=3,ground:=Ground.guard}],guard:=some (3,true)}) (v:=.int .i64 (y:Nat)) rfl (by kernel_rfl) (by kernel_rfl) (by kernel_rfl) (fun _ _ _ h=>h) (Or.inl ⟨by rfl,?_⟩) (by assumption) ?_
      ·(intro w d;(try dsimp only at d);go_simp)
      simp only[Act.put,List.setIfInBounds_toArray,List.set_cons_zero,List.set_cons_succ]
      refine wpAnyH_ready (rs:=[14]) (by kernel_rfl) (by simp) ?_
      refine AllReadyH.cons (o:={dst:=some 32,op:=Op.call {callee:=Callee.value (Operand.tmp 22),args:=#[Operand.tmp 26,Operand.tmp 31],argTypes:=#[3,3]},type:=3,pos:= "zsortanyfunc.go:12",after:=#[{on:=4,ground:=Ground.data},{on:=8,ground:=Ground.data},{on:=13,ground:=Ground.data},{on:=3,ground:=Ground.chain},{on:=3,ground:=Ground.guard}],guard:=some (3,true)}) rfl (fun K hK=>?_) AllReadyH.nil
      go_simp
      refine(uH N _ (uH HG)).mono ?_
      rintro e w5 ⟨rfl,G⟩
      have R5:=ac ((uH HS).below G (uH HS).lt);have G5:=ac (cz (uH HG) (cC G (some g)));have D5:=ac (And.intro (aG (uH Q).1 G) (aG (uH Q).2 G))
      clear G
      go_wp2_with fail
      refine hK.out _ _ ?_ (fun u=>?_)
      ·exact uH D5
      clear hK K
      refine wpAnyH_take (i:=15) (oi:={dst:=some 33,op:=Op.binOp BinOp.lss 3 (Operand.tmp 32) (Operand.const (Value.int IntKind.i64 0)) 3,type:=4,pos:= "zsortanyfunc.go:12",after:=#[{on:=14,ground:=Ground.data},{on:=3,ground:=Ground.guard}],guard:=some (3,true)}) (v:=.bool true) rfl (by kernel_rfl) (by kernel_rfl) (by kernel_rfl) (fun _ _ _ h=>h) (Or.inl ⟨by rfl,?_⟩) (by assumption) ?_
      ·(intro w d;(try dsimp only at d);go_simp)
      simp only[Act.put,List.setIfInBounds_toArray,List.set_cons_zero,List.set_cons_succ]
      refine wpAnyH_take (i:=16) (oi:={dst:=some 34,op:=Op.pick (Operand.tmp 21) (Operand.tmp 33) (Operand.const (Value.bool false)),type:=4,pos:= "zsortanyfunc.go:12",after:=#[{on:=3,ground:=Ground.data},{on:=15,ground:=Ground.data}],guard:=none}) (v:=.bool true) rfl (by kernel_rfl) (by kernel_rfl) (by kernel_rfl) (fun _ _ _ h=>h) (Or.inl ⟨by rfl,?_⟩) (by assumption) ?_
      ·(intro w d;(try dsimp only at d);go_simp)
      simp only[Act.put,List.setIfInBounds_toArray,List.set_cons_zero,List.set_cons_succ]
      refine wpAnyH_done (by kernel_rfl) ?_ _
      clear N HS HG Q Z
      go_wp2_with fail
      refine al (fun W=>bK W g (A i m)∧w.grownBy W (some g)) ⟨uH R5,uH G5⟩ ?_
      clear R5 G5 D5
      rintro V ⟨H,hg⟩
      have c1:=H.cell m (by rw[uH LA];omega)
      have c2:=H.cell j (by rw[uH LA];omega)
      rw[(uH PP).1]at c1
      rw[(uH PP).2]at c2
      have f1:=H.free m
      have f2:=H.free j
      have T1:=H.set m y
      have f3:=T1.free j
      have d3:=T1.cell j (by rw[List.length_set,uH LA];omega)
      generalize (((A i m).set m y)[j]?.getD 0)=u3 at d3
      have T2:=ac (uH S2 V H)
      have G2:=ac (cz (cz hg (mJ V g m (.int .i64 (y:Nat)))) (mJ _ g j (.int .i64 (i:Nat))))
      clear H hg T1
      go_region_with (fail "NO ARM")
      all_goals
       go_wp2_with fail
       go_round
       case rel=>exact⟨j,by omega,by omega,by go_num,T2,ac (cz (uH G2) (cC (Below.refl _ _).drew (some g)))⟩
       case measure=>have:=uH HJ;simp[intOf];omega
     ·have hO:¬ov<0:=fun q=>ah ((uH KO).1 q)
      have am:J i=m:=by have:=uH HJ;omega
      refine wp_region_held_drew (S:=fun D=>D.cell? ⟨g,m,none⟩=some (.int .i64 (i:Nat))∧D.cell? ⟨g,j,none⟩=some (.int .i64 (y:Nat))) (by kernel_rfl) ?_ (fun u=>?_)
      ·exact uH Q
      refine wpAnyH_take (i:=0) (oi:={dst:=some 18,op:=Op.move (Operand.tmp 9),type:=3,pos:= "zsortanyfunc.go:12",after:=#[],guard:=none}) (v:=.int .i64 (m:Nat)) rfl (by kernel_rfl) (by kernel_rfl) (by kernel_rfl) (fun _ _ _ h=>h) (Or.inl ⟨by rfl,?_⟩) (by assumption) ?_
      ·(intro w d;(try dsimp only at d);go_simp)
      simp only[Act.put,List.setIfInBounds_toArray,List.set_cons_zero,List.set_cons_succ]
      refine wpAnyH_take (i:=1) (oi:={dst:=some 19,op:=Op.move (Operand.tmp 1),type:=3,pos:= "zsortanyfunc.go:12",after:=#[],guard:=none}) (v:=.int .i64 0) rfl (by kernel_rfl) (by kernel_rfl) (by kernel_rfl) (fun _ _ _ h=>h) (Or.inl ⟨by rfl,?_⟩) (by assumption) ?_
      ·(intro w d;(try dsimp only at d);go_simp)
      simp only[Act.put,List.setIfInBounds_toArray,List.set_cons_zero,List.set_cons_succ]
      refine wpAnyH_take (i:=2) (oi:={dst:=some 20,op:=Op.binOp BinOp.gtr 3 (Operand.tmp 18) (Operand.tmp 19) 3,type:=4,pos:= "zsortanyfunc.go:12",after:=#[{on:=0,ground:=Ground.data},{on:=1,ground:=Ground.data}],guard:=none}) (v:=.bool true) rfl (by kernel_rfl) (by kernel_rfl) (by kernel_rfl) (fun _ _ _ h=>h) (Or.inl ⟨by rfl,?_⟩) (by assumption) ?_
      ·(intro w d;(try dsimp only at d);go_simp)
      simp only[Act.put,List.setIfInBounds_toArray,List.set_cons_zero,List.set_cons_succ]
      refine wpAnyH_take (i:=3) (oi:={dst:=some 21,op:=Op.move (Operand.tmp 20),type:=4,pos:= "zsortanyfunc.go:12",after:=#[{on:=2,ground:=Ground.data}],guard:=none}) (v:=.bool true) rfl (by kernel_rfl) (by kernel_rfl) (by kernel_rfl) (fun _ _ _ h=>h) (Or.inl ⟨by rfl,?_⟩) (by assumption) ?_
      ·(intro w d;(try dsimp only at d);go_simp)
      simp only[Act.put,List.setIfInBounds_toArray,List.set_cons_zero,List.set_cons_succ]
      refine wpAnyH_take (i:=4) (oi:={dst:=some 22,op:=Op.move (Operand.tmp 3),type:=164,pos:= "zsortanyfunc.go:12",after:=#[{on:=3,ground:=Ground.guard}],guard:=some (3,true)}) (v:=.func (.func fn) #[] F) rfl (by kernel_rfl) (by kernel_rfl) (by kernel_rfl) (fun _ _ _ h=>h) (Or.inl ⟨by rfl,?_⟩) (by assumption) ?_
      ·(intro w d;(try dsimp only at d);go_simp)
      simp only[Act.put,List.setIfInBounds_toArray,List.set_cons_zero,List.set_cons_succ]
      refine wpAnyH_take (i:=5) (oi:={dst:=some 23,op:=Op.move (Operand.tmp 0),type:=126,pos:= "zsortanyfunc.go:12",after:=#[{on:=3,ground:=Ground.guard}],guard:=some (3,true)}) (v:=.slice (some ⟨g,0,none⟩) n n) rfl (by kernel_rfl) (by kernel_rfl) (by kernel_rfl) (fun _ _ _ h=>h) (Or.inl ⟨by rfl,?_⟩) (by assumption) ?_
      ·(intro w d;(try dsimp only at d);go_simp)
      simp only[Act.put,List.setIfInBounds_toArray,List.set_cons_zero,List.set_cons_succ]
      refine wpAnyH_take (i:=6) (oi:={dst:=some 24,op:=Op.move (Operand.tmp 9),type:=3,pos:= "zsortanyfunc.go:12",after:=#[{on:=3,ground:=Ground.guard}],guard:=some (3,true)}) (v:=.int .i64 (m:Nat)) rfl (by kernel_rfl) (by kernel_rfl) (by kernel_rfl) (fun _ _ _ h=>h) (Or.inl ⟨by rfl,?_⟩) (by assumption) ?_
      ·(intro w d;(try dsimp only at d);go_simp)
      simp only[Act.put,List.setIfInBounds_toArray,List.set_cons_zero,List.set_cons_succ]
      refine wpAnyH_take (i:=7) (oi:={dst:=some 25,op:=Op.indexAddr 126 (Operand.tmp 23) (Operand.tmp 24),type:=0,pos:= "zsortanyfunc.go:12",after:=#[{on:=5,ground:=Ground.data},{on:=6,ground:=Ground.data},{on:=3,ground:=Ground.guard}],guard:=some (3,true)}) (v:=.pointer (some ⟨g,m,none⟩)) rfl (by kernel_rfl) (by kernel_rfl) (by kernel_rfl) (fun _ _ _ h=>h) (Or.inl ⟨by rfl,?_⟩) (by assumption) ?_
      ·(intro w d;(try dsimp only at d);go_simp)
      simp only[Act.put,List.setIfInBounds_toArray,List.set_cons_zero,List.set_cons_succ]
      refine wpAnyH_take (i:=8) (oi:={dst:=some 26,op:=Op.load 3 (Operand.tmp 25),type:=3,pos:= "zsortanyfunc.go:12",after:=#[{on:=7,ground:=Ground.data},{on:=3,ground:=Ground.guard}],guard:=some (3,true)}) (v:=.int .i64 (i:Nat)) rfl (by kernel_rfl) (by kernel_rfl) (by kernel_rfl) (fun _ _ _ h=>h) (Or.inl ⟨by rfl,?_⟩) (by assumption) ?_
      ·(intro w d;(try dsimp only at d);go_simp)
      simp only[Act.put,List.setIfInBounds_toArray,List.set_cons_zero,List.set_cons_succ]
      refine wpAnyH_take (i:=9) (oi:={dst:=some 27,op:=Op.move (Operand.tmp 0),type:=126,pos:= "zsortanyfunc.go:12",after:=#[{on:=3,ground:=Ground.guard}],guard:=some (3,true)}) (v:=.slice (some ⟨g,0,none⟩) n n) rfl (by kernel_rfl) (by kernel_rfl) (by kernel_rfl) (fun _ _ _ h=>h) (Or.inl ⟨by rfl,?_⟩) (by assumption) ?_
      ·(intro w d;(try dsimp only at d);go_simp)
      simp only[Act.put,List.setIfInBounds_toArray,List.set_cons_zero,List.set_cons_succ]
      refine wpAnyH_take (i:=10) (oi:={dst:=some 28,op:=Op.move (Operand.tmp 9),type:=3,pos:= "zsortanyfunc.go:12",after:=#[{on:=3,ground:=Ground.guard}],guard:=some (3,true)}) (v:=.int .i64 (m:Nat)) rfl (by kernel_rfl) (by kernel_rfl) (by kernel_rfl) (fun _ _ _ h=>h) (Or.inl ⟨by rfl,?_⟩) (by assumption) ?_
      ·(intro w d;(try dsimp only at d);go_simp)
      simp only[Act.put,List.setIfInBounds_toArray,List.set_cons_zero,List.set_cons_succ]
      refine wpAnyH_take (i:=11) (oi:={dst:=some 29,op:=Op.binOp BinOp.sub 3 (Operand.tmp 28) (Operand.const (Value.int IntKind.i64 1)) 3,type:=3,pos:= "zsortanyfunc.go:12",after:=#[{on:=10,ground:=Ground.data},{on:=3,ground:=Ground.guard}],guard:=some (3,true)}) (v:=.int .i64 (j:Nat)) rfl (by kernel_rfl) (by kernel_rfl) (by kernel_rfl) (fun _ _ _ h=>h) (Or.inl ⟨by rfl,?_⟩) (by assumption) ?_
      ·(intro w d;(try dsimp only at d);go_simp)
      simp only[Act.put,List.setIfInBounds_toArray,List.set_cons_zero,List.set_cons_succ]
      refine wpAnyH_take (i:=12) (oi:={dst:=some 30,op:=Op.indexAddr 126 (Operand.tmp 27) (Operand.tmp 29),type:=0,pos:= "zsortanyfunc.go:12",after:=#[{on:=9,ground:=Ground.data},{on:=11,ground:=Ground.data},{on:=3,ground:=Ground.guard}],guard:=some (3,true)}) (v:=.pointer (some ⟨g,j,none⟩)) rfl (by kernel_rfl) (by kernel_rfl) (by kernel_rfl) (fun _ _ _ h=>h) (Or.inl ⟨by rfl,?_⟩) (by assumption) ?_
      ·(intro w d;(try dsimp only at d);go_simp)
      simp only[Act.put,List.setIfInBounds_toArray,List.set_cons_zero,List.set_cons_succ]
      refine wpAnyH_take (i:=13) (oi:={dst:=some 31,op:=Op.load 3 (Operand.tmp 30),type:=3,pos:= "zsortanyfunc.go:12",after:=#[{on:=12,ground:=Ground.data},{on:=3,ground:=Ground.guard}],guard:=some (3,true)}) (v:=.int .i64 (y:Nat)) rfl (by kernel_rfl) (by kernel_rfl) (by kernel_rfl) (fun _ _ _ h=>h) (Or.inl ⟨by rfl,?_⟩) (by assumption) ?_
      ·(intro w d;(try dsimp only at d);go_simp)
      simp only[Act.put,List.setIfInBounds_toArray,List.set_cons_zero,List.set_cons_succ]
      refine wpAnyH_ready (rs:=[14]) (by kernel_rfl) (by simp) ?_
      refine AllReadyH.cons (o:={dst:=some 32,op:=Op.call {callee:=Callee.value (Operand.tmp 22),args:=#[Operand.tmp 26,Operand.tmp 31],argTypes:=#[3,3]},type:=3,pos:= "zsortanyfunc.go:12",after:=#[{on:=4,ground:=Ground.data},{on:=8,ground:=Ground.data},{on:=13,ground:=Ground.data},{on:=3,ground:=Ground.chain},{on:=3,ground:=Ground.guard}],guard:=some (3,true)}) rfl (fun K hK=>?_) AllReadyH.nil
      go_simp
      refine(uH N _ (uH HG)).mono ?_
      rintro e w5 ⟨rfl,G⟩
      have R5:=ac ((uH HS).below G (uH HS).lt);have G5:=ac (cz (uH HG) (cC G (some g)));have D5:=ac (And.intro (aG (uH Q).1 G) (aG (uH Q).2 G))
      clear G
      go_wp2_with fail
      refine hK.out _ _ ?_ (fun u=>?_)
      ·exact uH D5
      clear hK K
      refine wpAnyH_take (i:=15) (oi:={dst:=some 33,op:=Op.binOp BinOp.lss 3 (Operand.tmp 32) (Operand.const (Value.int IntKind.i64 0)) 3,type:=4,pos:= "zsortanyfunc.go:12",after:=#[{on:=14,ground:=Ground.data},{on:=3,ground:=Ground.guard}],guard:=some (3,true)}) (v:=.bool false) rfl (by kernel_rfl) (by kernel_rfl) (by kernel_rfl) (fun _ _ _ h=>h) (Or.inl ⟨by rfl,?_⟩) (by assumption) ?_
      ·(intro w d;(try dsimp only at d);go_simp)
      simp only[Act.put,List.setIfInBounds_toArray,List.set_cons_zero,List.set_cons_succ]
      refine wpAnyH_take (i:=16) (oi:={dst:=some 34,op:=Op.pick (Operand.tmp 21) (Operand.tmp 33) (Operand.const (Value.bool false)),type:=4,pos:= "zsortanyfunc.go:12",after:=#[{on:=3,ground:=Ground.data},{on:=15,ground:=Ground.data}],guard:=none}) (v:=.bool false) rfl (by kernel_rfl) (by kernel_rfl) (by kernel_rfl) (fun _ _ _ h=>h) (Or.inl ⟨by rfl,?_⟩) (by assumption) ?_
      ·(intro w d;(try dsimp only at d);go_simp)
      simp only[Act.put,List.setIfInBounds_toArray,List.set_cons_zero,List.set_cons_succ]
      refine wpAnyH_done (by kernel_rfl) ?_ _
      clear N HS HG Q Z
      go_wp2_with fail
      have X:=ac (show bK _ g (if n=i+1 then E else A (i+1) (i+1))from by
       have:=uH R5
       by_cases e:n=i+1
       ·rw[if_pos e,←uH KE i e.symm,am];exact this
       ·rw[if_neg e,←uH KN i (by omega),am];exact this)
      go_round
      case rel=>exact⟨i+1,by omega,by omega,by go_num,X,G5⟩
      case measure=>simp[intOf];omega
  ·have ar:i=n:=by omega
   subst ar
   have L:=ac (show bK wr g E from by have:=uH O;rwa[if_pos rfl]at this)
   clear O
   go_wp2_with fail
   first|go_end0|refine bodyPost_ret (results_none rfl _ _ _) rfl ?_
   exact⟨rfl,uH L,uH U⟩
theorem ul(n g u:Nat)(d:Array Value)(E:List Nat)(w:World)(F:n≤6)
  (C:Calls Tryz.prog 246 #[.slice (some ⟨g,0,none⟩) n n,.int .i64 0,.int .i64 n,.func (.func u) #[] d] w fun e h=>e=.returned (.tuple #[])∧bK h g E∧w.grownBy h (some g)):
  Calls Tryz.prog 214 #[.slice (some ⟨g,0,none⟩) n n,.int .i64 n,.func (.func u) #[] d] w fun e h=>e=.returned (.tuple #[])∧bK h g E∧w.grownBy h (some g):=by
 have K:=ac C
 have G:¬((20:Int)≤(n:Int)):=by omega
 have D:¬((20:Int)<(n:Int)):=by omega
 clear C
 go_enter Tryz.func214,Tryz.ntmps214
 go_wp2_with fail
 go_loopw[7,8] (fun a b wr=>a=.int .i64 0∧b=.int .i64 20∧w=wr) (fun _ _ _=>0)
 case atStart=>exact⟨rfl,rfl,rfl⟩
 case round=>
  obtain⟨rfl,rfl,rfl⟩:=hrel
  go_wp2_with fail
  refine Calls.mono (uH K) ?_
  rintro e H ⟨rfl,z,A⟩
  have R:=ac (And.intro z A)
  clear z A K
  go_wp2_with fail
  go_loopw[6] (fun a wr=>a=.int .i64 20∧Hid (bK wr g E∧w.grownBy wr (some g))) (fun _ _=>0)
  case atStart=>exact⟨rfl,R⟩
  case round=>
   clear R
   obtain⟨rfl,R⟩:=hrel
   go_wp2_with fail
   first|go_end0|refine bodyPost_ret (results_none rfl _ _ _) rfl ?_
   exact⟨rfl,uH R⟩
theorem wC(n g z:Nat)(d:Array Value)(E:List Nat)(w:World)(A:n=0)(h:bK w g E):
  Calls Tryz.prog 246 #[.slice (some ⟨g,0,none⟩) n n,.int .i64 0,.int .i64 n,.func (.func z) #[] d] w fun e u=>e=.returned (.tuple #[])∧bK u g E∧w.grownBy u (some g):=by
 subst A
 have R:=ac (show bK w g E∧w.grownBy w (some g)from⟨h,cC (Below.refl w.heap.size w) (some g)⟩)
 clear h
 rw[show((0:Nat):Int)=0 from rfl]
 go_enter Tryz.func246,Tryz.ntmps246
 go_wp2_with fail
 go_loopw[8] (fun a wr=>a=.int .i64 1∧w=wr) (fun _ _=>0)
 case atStart=>exact⟨rfl,rfl⟩
 case round=>
  obtain⟨rfl,rfl⟩:=hrel
  go_wp2_with fail
  first|go_end0|refine bodyPost_ret (results_none rfl _ _ _) rfl ?_
  exact⟨rfl,uH R⟩
theorem zE(n g u:Nat)(d:Array Value)(E:List Nat)(w:World)
  (C:Calls Tryz.prog 214 #[.slice (some ⟨g,0,none⟩) n n,.int .i64 n,.func (.func u) #[] d] w fun e h=>e=.returned (.tuple #[])∧bK h g E∧w.grownBy h (some g)):
  Calls Tryz.prog 173 #[.slice (some ⟨g,0,none⟩) n n,.func (.func u) #[] d] w fun e h=>e=.returned (.tuple #[])∧bK h g E∧w.grownBy h (some g):=by
 have K:=ac C
 clear C
 go_enter Tryz.func173,Tryz.ntmps173
 go_wp2_with fail
 refine Calls.mono (uH K) ?_
 rintro e D ⟨rfl,z,A⟩
 have R:=ac (And.intro z A)
 clear z A K
 go_wp2_with fail
 first|go_end0|refine bodyPost_ret (results_none rfl _ _ _) rfl ?_
 exact⟨rfl,uH R⟩
theorem zF(n p x y z A D u v:Nat)(w:World)(Z:x<n)(hy:y<n)(G:w.cell? ⟨p,0,none⟩=some (.slice (some ⟨z,A,none⟩) n D))(H:w.cell? ⟨z,A+x,none⟩=some (.int .u64 (u:Nat)))(I:w.cell? ⟨z,A+y,none⟩=some (.int .u64 (v:Nat)))(J:u<18446744073709551616)(L:v<18446744073709551616):
  Calls Tryz.prog 174 #[.int .i64 x,.int .i64 y,.pointer (some ⟨p,0,none⟩)] w fun e d=>e=.returned (.int .i64 (cO v u))∧Below w.heap.size w d:=by
 have K:=ac (fun d=>ke v u d L J)
 have O:(x:Int)<(n:Int):=by omega
 have Q:(y:Int)<(n:Int):=by omega
 generalize cO v u=o at*
 generalize cB v u=t at*
 have N:=ac (fun d (h:Below w.heap.size w d)=>(show Below w.heap.size w d∧d.cell? ⟨p,0,none⟩=some (.slice (some ⟨z,A,none⟩) n D)∧d.cell? ⟨z,A+x,none⟩=some (.int .u64 (u:Nat))∧d.cell? ⟨z,A+y,none⟩=some (.int .u64 (v:Nat))from⟨h,aG G h,aG H h,aG I h⟩))
 clear G H I J L
 go_enter Tryz.func174,Tryz.ntmps174
 go_wp2_with fail
 go_region_held3(fun d=>Below w.heap.size w d∧d.cell? ⟨p,0,none⟩=some (.slice (some ⟨z,A,none⟩) n D)∧d.cell? ⟨z,A+x,none⟩=some (.int .u64 (u:Nat))∧d.cell? ⟨z,A+y,none⟩=some (.int .u64 (v:Nat)))
  (first|exact uH N _ (Below.refl _ _).drew|exact uH N _ (by assumption)|fail "KK")
  (first|(go_at_call 160;refine(uH K _).mono ?_;rintro e Y ⟨rfl,F⟩;have U:Below w.heap.size w Y:=Below.trans (And.left (by assumption)) (F.mono (Below.size (And.left (by assumption))));clear F)|fail "NO ARM")
 all_goals
  have X:=ac (And.left (by assumption:Below w.heap.size w _∧_))
  go_wp2_with fail
  exact bodyPost_ret (v:=.int .i64 o) (by simp[results,Tryz.results174,go_sem]) rfl ⟨rfl,uH X⟩
theorem wD(n d:Nat)(h:Option Addr)(E:List Nat)(w:World)(h6:n≤6)
  (C:∀u g,Below w.heap.size w u→w.heap.size<g→u.cell? ⟨w.heap.size,0,none⟩=some (.slice h n d)→bK u g (List.range n)→Calls Tryz.prog 173 #[.slice (some ⟨g,0,none⟩) n n,.func (.func 174) #[] #[.pointer (some ⟨w.heap.size,0,none⟩)]] u fun e D=>e=.returned (.tuple #[])∧bK D g E∧u.grownBy D (some g)):
  Calls Tryz.prog 122 #[.slice h n d] w fun e u=>∃g,e=.returned (.slice (some ⟨g,0,none⟩) n n)∧w.heap.size≤g∧bK u g E∧Below w.heap.size w u:=by
 have K:=ac C
 have G:=run_make_row' (P:=Tryz.prog) 126 3 (.int .i64 0) 8 Tryz.underlying126 (by kernel_rfl) rfl .i64 .i64 n (by omega) (by omega)
 have H:=ad w (.cells #[.slice h n d] 22)
 have U:=aq w (.cells #[.slice h n d] 22)
 have I:(w.alloc (.cells #[.slice h n d] 22)).cell? ⟨w.heap.size,0,none⟩=some (.slice h n d):=by
  rw[cell_of_row _ w.heap.size 0 _ _ _ (heap_alloc_new w _)]
  rfl
 have y0:=I
 have J:=bK.made (w.alloc (.cells #[.slice h n d] 22)) n
 have L:=ad (w.alloc (.cells #[.slice h n d] 22)) (.cells (madeCells #[.int .i64 0] n) 3)
 rw[U]at J
 have N:=ac J
 rw[show List.replicate n 0=tN id n 0 from(xC id n).symm]at N
 have X:=ac (H.trans (L.mono H.size))
 have Y:=ac (aG I L)
 clear C H L J I U
 go_enter Tryz.func122,Tryz.ntmps122
 go_wp2_with fail
 clear G y0
 go_loopw[10] (fun a wr=>∃k:Nat,k≤n∧a=.int .i64 k∧Hid (bK wr (w.heap.size+1) (tN id n k))∧Hid (Below w.heap.size w wr)∧Hid (wr.cell? ⟨w.heap.size,0,none⟩=some (.slice h n d))) (fun a _=>n-(intOf a).toNat)
 case atStart=>exact⟨0,Nat.zero_le _,rfl,N,X,Y⟩
 case round=>
  clear N X Y
  obtain⟨j,hj,rfl,z,A,F⟩:=hrel
  by_cases O:j<n
  ·have aa:(j:Int)<(n:Int):=by omega
   have d1:=(uH z).cell j (by rw[no];exact O)
   have f1:=(uH z).free j
   have Z:=ac ((uH z).set j j)
   rw[show(tN id n j).set j j=tN id n (j+1)from np id n j]at Z
   have B1:=ac ((uH A).setCell (p:=⟨w.heap.size+1,j,none⟩) (Nat.le_succ _) (.int .i64 (j:Int)))
   have C1:=ac (show(wr.setCell ⟨w.heap.size+1,j,none⟩ (.int .i64 (j:Int))).cell? ⟨w.heap.size,0,none⟩=some (.slice h n d)from(a8 _ _ _ _ (by simp)).trans (uH F))
   clear z A F
   go_wp2_with fail
   go_round
   case rel=>exact⟨j+1,by omega,by go_num,Z,B1,C1⟩
   case measure=>first|(simp[intOf];done)|(simp[intOf];omega)
  ·have Q:j=n:=by omega
   subst Q
   rw[show tN id j j=List.range j from by rw[kR,List.map_id]]at z
   have K2:=ac (uH K wr (w.heap.size+1) (uH A) (Nat.lt_succ_self _) (uH F) (uH z))
   clear K F z
   go_wp2_with fail
   refine Calls.mono (uH K2) ?_
   rintro e w1 ⟨rfl,hr,hg⟩
   have R:=ac (show bK w1 _ E∧Below w.heap.size w w1 from⟨hr,(uH A).grown hg (uH A).size (fun k e=>by cases e;exact Nat.le_succ _)⟩)
   clear hr hg K2 A
   go_wp2_with fail
   go_ret
   exact⟨_,rfl,Nat.le_succ _,(uH R).1,(uH R).2⟩
theorem zG(args:Array Value)(w:World):(callFunc 174 args).run Tryz.prog w=.ok (.enter 174 args) w:=by
 simp only[callFunc,go_sem]
 rfl
theorem um(d:Nat)(G:Option Addr)(I:List Nat)(w:World)(N:I.length≤6)(J:ap w G d (bH I)):
  Calls Tryz.prog 122 #[.slice G I.length d] w fun e h=>∃g,e=.returned (.slice (some ⟨g,0,none⟩) I.length I.length)∧w.heap.size≤g∧bK h g (ev I I.length)∧Below w.heap.size w h:=by
 refine wD I.length d G (ev I I.length) w N (fun h g hb hg O H=>?_)
 refine zE I.length g _ _ _ h (ul I.length g _ _ _ h N ?_)
 rcases Nat.eq_zero_or_pos I.length with F|F
 ·refine wC _ g _ _ _ h F ?_
  rw[F]at H⊢
  exact H
 ·refine DF I.length g 174 #[.pointer (some ⟨w.heap.size,0,none⟩)] (wz I.length I) (fun i j=>(ev I i).getD j 0) (fun i=>uj (DC I i) i) (fun x y=>cO (I.getD y 0) (I.getD x 0)) h (by omega) F zG (fun i j u A=>GH I u A) (fun i j u A=>?_) (fun i u=>?_) (fun i u=>?_) _ (fun i u=>?_) (fun z=>?_) (fun z=>?_) (fun Q D x y U X=>?_)
  ·obtain⟨a,b,c⟩:=DE (n:=I.length) I A
   refine⟨a,b,c,?_⟩
   have hm:(ev I i).getD j 0∈ev I i:=by
    rw[List.getD_eq_getElem?_getD,List.getElem?_eq_getElem (by rw[fH];exact A)]
    exact List.getElem_mem _
   exact Nat.lt_trans (li I i _ hm) u
  ·refine⟨wy _ _,fun j z h2=>?_,fun j A=>?_⟩
   ·have:=DB (DC I i) i j z h2
    unfold DC ku at this
    exact of_decide_eq_true this
   ·have:=xP (DC I i) i (by omega)
    rw[show uj (DC I i) i-1=j by omega]at this
    unfold DC ku at this
    exact of_decide_eq_false this
  ·rw[rp,wB I u]
  ·rw[rp,u,uk]
  ·rw[←wB I z,Hq I F];exact H
  ·rw[←uk,z,Hq I (by omega),←z];exact H
  ·have K:=Gt.old J (g:=some g) (fun k e=>by cases e;omega)
   have q:=pH (J.below hb) K D
   obtain⟨sb,so,e1,_,cx⟩:=mo q U
   obtain⟨aa,ae,L,_,cy⟩:=mo q X
   rw[e1]at L
   simp only[Option.some.injEq,Addr.mk.injEq]at L
   obtain⟨rfl,rfl,_⟩:=L
   have Y:∀i,I.getD i 0<18446744073709551616:=fun i=>by rw[←eg];exact J.lt i
   have Z:Q.cell? ⟨w.heap.size,0,none⟩=some (.slice G I.length d):=by
    rw[←O]
    unfold World.cell?
    rw[D.block w.heap.size (Nat.lt_of_lt_of_le (World.block_lt_of_cell? h _ O) (Nat.le_refl _)) (fun e=>by cases e;omega)]
   rw[e1]at Z
   exact zF I.length w.heap.size x y sb so d _ _ Q U X Z cx cy (Y x) (Y y)
end Go.Proofs.YtcbcmlaogehimaaGreatDoor
namespace Go.Proofs.YtcbcmlaogehimaaGreatDoor
open Go.RowKit
theorem DG(m r:Nat)(d:m<9223372036854775808)(u:r<9223372036854775808)(h:9218868437227405312≤m∨9218868437227405312≤r):9218868437227405312≤mx m r∧mx m r<9223372036854775808:=by
 obtain⟨z,D,F⟩:=iW m d
 obtain⟨A,G,H⟩:=iW r u
 unfold mx
 split
 ·decide
 ·rw[z,A]
  rcases Nat.lt_or_ge m r with g|g
  ·have:=ow g
   rw[if_pos (by omega)]
   omega
  ·have:=iK g
   rw[if_neg (by omega)]
   omega
theorem GK(m r:Nat)(d:m<9223372036854775808)(h:r<9223372036854775808):mx m r<9223372036854775808:=by
 unfold mx
 repeat' split
 ·decide
 ·exact h
 ·exact d
theorem GL:∀(d:List Nat) (m:Nat),m<9223372036854775808→(9218868437227405312≤m∨∃x∈d,aj x=false)→9218868437227405312≤bB m d∧bB m d<9223372036854775808:=by
 intro d
 induction d with
 |nil=>
  intro m u h
  rcases h with h|⟨x,F,_⟩
  ·exact⟨h,u⟩
  ·cases F
 |cons x d ih=>
  intro m u h
  have G:=i8 x
  show 9218868437227405312≤bB (mx m (fR x)) d∧bB (mx m (fR x)) d<9223372036854775808
  have D:=GK m (fR x) u (by omega)
  refine ih _ D ?_
  rcases h with h|⟨y,z,A⟩
  ·exact .inl (DG m (fR x) u (by omega) (.inl h)).1
  ·rcases List.mem_cons.1 z with e|z
   ·subst e
    refine .inl (DG m _ u (by omega) (.inr ?_)).1
    rcases Nat.lt_or_ge (fR y) 9218868437227405312 with g|g
    ·rw[(bZ y).2.2.2 g]at A;cases A
    ·exact g
   ·exact .inr ⟨y,z,A⟩
theorem GM(d:List Nat)(h:aj (de d)=true):∀x∈d,aj x=true:=by
 intro x A
 cases hf:aj x with
 |true=>rfl
 |false=>
  exfalso
  obtain⟨D,z⟩:=GL d 0 (by decide) (.inr ⟨x,A,hf⟩)
  obtain⟨F,G,H⟩:=iW (bB 0 d) z
  have u:aj (bB 0 d)=false:=by
   cases hq:aj (bB 0 d)with
   |false=>rfl
   |true=>have:=iT _ hq;omega
  have e:de d=bB 0 d:=by unfold de;rw[if_pos (.inr u)]
  rw[e,u]at h
  cases h
theorem jL(d:List Nat)(u:∀x∈d,x<18446744073709551616∧aj x=true):qY 5000 d:=by
 refine⟨u,.inr ?_⟩
 obtain⟨z,_⟩:=kP d 0 (by decide) (fun x h=>(u x h).2)
 have:=kU (bB 0 d) (by omega)
 omega
theorem Lr{a b:Nat}(d:aj a=true)(h:aj b=true):cO a b<0↔fZ a<fZ b:=by
 have u:=(bP d).2;have z:=(bP h).2
 unfold cO bt
 rw[if_neg (fun e=>e.elim u z)]
 repeat' split
 all_goals omega
theorem LS(r c:Nat)(S:List Nat){j:Nat}(h:j<r)(d:j<c):LN r c (LP r c S j) j=Gr c S j (r-j) (Ka r c S j):=by
 unfold LN Gr
 refine List.map_congr_left (fun p u=>?_)
 have:=List.mem_range.1 u
 unfold LP
 rw[Ln r c S d (Dt r c S d) (by omega) d]
 unfold LT
 split
 ·rename_i g;exact congrArg (aS c S (j+p)) g
 ·rw[if_pos rfl]
theorem JP(r c:Nat)(S:List Nat)(j:Nat):∀t,LE r c S j t=true→∀k,j≤k→k<j+t→aj (Ll r c S j k)=true:=by
 intro t
 induction t with
 |zero=>intro _ k u z;omega
 |succ t ih=>
  intro h k u z
  have d:(LE r c S j t&&aj (Ll r c S j (j+t)))=true:=h
  rw[Bool.and_eq_true]at d
  by_cases g:k=j+t
  ·rw[g];exact d.2
  ·exact ih d.1 k u (by omega)
theorem finW(r c:Nat)(S:List Nat){j:Nat}(u:j<r)(d:j<c)(h:LU r c S j=true):gq (LN r c (LP r c S j) j)=true:=by
 rw[LS r c S u d]
 have:=GM _ (JP r c S j (c-j) h (Ka r c S j) (JG r c S j) (by have:=Dt r c S d;omega))
 unfold gq
 rw[lf]
 intro k z
 rw[eg]
 refine this _ ?_
 rw[List.getD_eq_getElem?_getD,List.getElem?_eq_getElem z]
 exact List.getElem_mem z
attribute [local go_sem ↓] Go.wp_at_zero Go.wp_at_succ
theorem JQ(r c:Int)(A:Option Addr)(n d:Nat)(I:Option Addr)(k J:Nat)(w:World)(L:n≤35184372088830)(h:kl r c n=false):
  Calls Tryz.prog 124 #[.agg #[.int .i64 r,.int .i64 c,.slice A n d],.slice I k J] w fun e F=>∃v,e=.returned (.tuple #[v,.int .i64 1])∧df w.heap.size F 0 0 [] v∧Below w.heap.size w F:=by
 have K:=ac (gL r c A n d ((w.alloc (.cells #[.int .i64 r,.int .i64 c,.slice A n d] 24)).alloc (.cells #[.int .i64 0,.int .i64 0,.slice none 0 0] 24)) L)
 rw[h,if_neg (by decide)]at K
 simp only[aq]at K
 have G:=ac (mn w (.int .i64 r) (.int .i64 c) (.slice A n d) (.int .i64 0) (.int .i64 0) (.slice none 0 0))
 clear h
 go_enter Tryz.func124,Tryz.ntmps124
 go_wp2_with fail
 refine Calls.mono (uH K) ?_
 rintro e U ⟨rfl,z⟩
 obtain⟨H,Q,u⟩:=uH G U z
 clear K G z Q
 have X:=u.free 0;have Y:=u.free 1;have Z:=u.free 2
 have s0:=u.c0;have s1:=u.c1;have s2:=u.c2
 have D:=u.put (.int .i64 0) (.int .i64 0) (.slice none 0 0)
 have N:=D.c0;have z1:=D.c1;have z2:=D.c2
 have O:=ac (aN H (b:=w.heap.size+1) (by omega) (.int .i64 0) (.int .i64 0) (.slice none 0 0))
 clear D u H
 go_wp2
 exact bodyPost_ret (v:=.tuple #[.agg #[.int .i64 0,.int .i64 0,.slice none 0 0],.int .i64 1]) (by simp[results,Tryz.results124,go_sem,N,z1,z2]) rfl ⟨_,rfl,df.zero _ _,uH O⟩
def xQ(w w':World)(r c:Nat)(S:List Nat)(I:List Int)(e:Ending):Prop:=
 ((∃j,j<I.length∧¬(0≤jN I j∧jN I j<c))∧∃v,e=.returned (.tuple #[v,.int .i64 1])∧df w.heap.size w' 0 0 [] v)∨
    ((∀j,j<I.length→0≤jN I j∧jN I j<c)∧6<I.length∧∃v,e=.returned (.tuple #[v,.int .i64 3])∧df w.heap.size w' 0 0 [] v)∨
    ((∀j,j<I.length→0≤jN I j∧jN I j<c)∧I.length≤6∧∃v,e=.returned (.tuple #[v,.int .i64 0])∧df w.heap.size w' r I.length (uc r c S (dp I)) v)
theorem zH(r c X pc:Nat)(ao po:Option Addr)(S:List Nat)(I:List Int)(w:World)(h:Mx w ao X r c S)(hI:iY w po pc I)(bq:I.length≤35184372088830):
  Calls Tryz.prog 124 #[.agg #[.int .i64 r,.int .i64 c,.slice ao S.length X],.slice po I.length pc] w fun e w'=>xQ w w' r c S I e∧Below w.heap.size w w':=by
 obtain⟨i0,b3,b4,b5,b6⟩:=info_parts oL
 have r6:=h.2.2.1
 have c6:=h.2.2.2
 have hl:=h.2.1
 have ck:=h.small
 have K:=ac (gL r c ao S.length X ((w.alloc (.cells #[.int .i64 (r:Nat),.int .i64 (c:Nat),.slice ao S.length X] 24)).alloc (.cells #[.int .i64 0,.int .i64 0,.slice none 0 0] 24)) (by omega))
 rw[xL h,if_pos (Eq.refl true)]at K
 simp only[aq]at K
 have KB:=ac (mn w (.int .i64 (r:Nat)) (.int .i64 (c:Nat)) (.slice ao S.length X) (.int .i64 0) (.int .i64 0) (.slice none 0 0))
 obtain⟨m,hm⟩:∃m,I.length=m:=⟨_,rfl⟩
 have a2:(dp I).length=m:=by rw[iB,hm]
 have ec:uc r c S (dp I)=mj r m (fun i k=>aS c S i ((dp I).getD k 0)):=by unfold uc;rw[a2]
 obtain⟨F,hF⟩:∃F:Nat→Nat,F=fun x=>aS c S (x/m) ((dp I).getD (x%m) 0):=⟨_,rfl⟩
 have FV:=ac (show∀j k,k<m→F (j*m+k)=aS c S j ((dp I).getD k 0)from fun j k hk=>by rw[hF];show aS c S ((j*m+k)/m) ((dp I).getD ((j*m+k)%m) 0)=_;rw[iw hk,iy hk])
 have FM:=ac (show mj r m (fun i k=>aS c S i ((dp I).getD k 0))=lD F (r*m)from by rw[hF];rfl)
 have NV:=ac (show∀k,k<m→0≤jN I k→(((dp I).getD k 0:Nat):Int)=jN I k from fun k hk h0=>by
  unfold dp jN at*
  rw[List.getD_eq_getElem?_getD,List.getElem?_map,List.getElem?_eq_getElem (by rw[hm];exact hk)]at*
  simp only[Option.map_some,Option.getD_some]at*
  omega)
 have J:=ac (show∀w' e,(((∃j,j<m∧¬(0≤jN I j∧jN I j<c))∧∃v,e=.returned (.tuple #[v,.int .i64 1])∧df w.heap.size w' 0 0 [] v)∨((∀j,j<m→0≤jN I j∧jN I j<c)∧6<m∧∃v,e=.returned (.tuple #[v,.int .i64 3])∧df w.heap.size w' 0 0 [] v)∨((∀j,j<m→0≤jN I j∧jN I j<c)∧m≤6∧∃v,e=.returned (.tuple #[v,.int .i64 0])∧df w.heap.size w' r m (lD F (r*m)) v))→xQ w w' r c S I e from fun w' e q=>by
  unfold xQ
  rw[ec,uH FM,hm]
  exact q)
 rw[hm]at bq⊢
 have HM:=ac h;have HI:=ac hI;have aa:=ac hm
 generalize cb:dp I=L at*
 generalize cc:S.length=n at*
 have HL:=ac hl
 clear hF FM h cc hl hI hm ec a2 cb
 go_enter Tryz.func124,Tryz.ntmps124
 go_wp2_with fail
 refine Calls.mono (uH K) ?_
 rintro e w1 ⟨rfl,bp⟩
 obtain⟨z,hA,U⟩:=uH KB w1 bp
 clear K KB bp
 replace HM:=ac ((uH HM).below z)
 replace HI:=ac ((uH HI).below z)
 have HA:=ac hA;have HX:=ac U;have HW:=ac z
 clear hA U z
 go_wp2_with fail
 go_loopw[21] (fun a wr=>∃i:Nat,i≤m∧a=.int .i64 i∧Hid (∀j,j<i→0≤jN I j∧jN I j<c)∧Hid (Below w1.heap.size w1 wr)) (fun a _=>m-(intOf a).toNat)
 case atStart=>exact⟨0,Nat.zero_le _,rfl,fun j hj=>absurd hj (Nat.not_lt_zero j),Below.refl _ _⟩
 case round=>
  obtain⟨i,hi,rfl,hG,Q⟩:=hrel
  replace HM:=ac ((uH HM).below (uH Q))
  replace HI:=ac ((uH HI).below (uH Q))
  replace HA:=ac ((uH HA).all (uH Q))
  replace HX:=ac ((uH HX).all (uH Q))
  replace HW:=ac ((uH HW).trans ((uH Q).mono (uH HW).size))
  by_cases a3:i<m
  ·have bs:(i:Int)<(m:Int):=by omega
   obtain⟨b,b7,a0,be,hc⟩:=(uH HI).ne (by rw[uH aa];omega)
   have d1:=hc i (by rw[uH aa];exact a3)
   rw[show I[i]?.getD 0=jN I i from rfl]at d1
   have ae:=ac (show(0≤jN I i∧jN I i<c)→∀j,j<i+1→0≤jN I j∧jN I j<c from fun q j hj=>by
    by_cases g:j=i
    ·rw[g];exact q
    ·exact uH hG j (by omega))
   have H:=ac (show¬(0≤jN I i∧jN I i<c)→∃j,j<m∧¬(0≤jN I j∧jN I j<c)from fun q=>⟨i,a3,q⟩)
   have cl:=(uH HI).wf i
   have y1:=(uH HA).c1
   subst a0
   generalize jN I i=x at*
   clear hc hG
   by_cases a4:x<0
   ·have Y:=uH H (by omega)
    have g1:decide (x<0)=true:=decide_eq_true a4
    have ax:=ac Y
    have d:=uH HX
    have f0:=d.free 0;have f1:=d.free 1;have f2:=d.free 2
    have s0:=d.c0;have s1:=d.c1;have s2:=d.c2
    have D:=d.put (.int .i64 0) (.int .i64 0) (.slice none 0 0)
    have z0:=D.c0;have z1:=D.c1;have z2:=D.c2
    have BP:=ac (aN (uH HW) (b:=w.heap.size+1) (by omega) (.int .i64 0) (.int .i64 0) (.slice none 0 0))
    clear D d Y H ae
    go_wp2_with fail
    exact bodyPost_ret (v:=.tuple #[.agg #[.int .i64 0,.int .i64 0,.slice none 0 0],.int .i64 1]) (by simp[results,Tryz.results124,go_sem,z0,z1,z2]) rfl ⟨uH J _ _ (.inl ⟨uH ax,_,rfl,df.zero _ _⟩),uH BP⟩
   ·have g1:decide (x<0)=false:=decide_eq_false a4
    by_cases a5:(c:Int)≤x
    ·have Y:=uH H (by omega)
     have g2:decide ((c:Int)≤x)=true:=decide_eq_true a5
     have ax:=ac Y
     have d:=uH HX
     have f0:=d.free 0;have f1:=d.free 1;have f2:=d.free 2
     have s0:=d.c0;have s1:=d.c1;have s2:=d.c2
     have D:=d.put (.int .i64 0) (.int .i64 0) (.slice none 0 0)
     have z0:=D.c0;have z1:=D.c1;have z2:=D.c2
     have BP:=ac (aN (uH HW) (b:=w.heap.size+1) (by omega) (.int .i64 0) (.int .i64 0) (.slice none 0 0))
     clear D d Y H ae
     go_wp2_with fail
     exact bodyPost_ret (v:=.tuple #[.agg #[.int .i64 0,.int .i64 0,.slice none 0 0],.int .i64 1]) (by simp[results,Tryz.results124,go_sem,z0,z1,z2]) rfl ⟨uH J _ _ (.inl ⟨uH ax,_,rfl,df.zero _ _⟩),uH BP⟩
    ·have g2:decide ((c:Int)≤x)=false:=decide_eq_false a5
     have bv:=ac (uH ae (by omega))
     clear H ae
     go_wp2_with fail
     go_round
     case rel=>exact⟨i+1,by omega,by go_num,bv,Q⟩
     case measure=>first|(simp[intOf];done)|(simp[intOf];omega)
  ·have bw:i=m:=by omega
   subst bw
   have bs:¬((i:Int)<(i:Int)):=by omega
   by_cases h6:6<i
   ·have bx:(6:Int)<(i:Int):=by omega
    have d:=uH HX
    have f0:=d.free 0;have f1:=d.free 1;have f2:=d.free 2
    have s0:=d.c0;have s1:=d.c1;have s2:=d.c2
    have D:=d.put (.int .i64 0) (.int .i64 0) (.slice none 0 0)
    have z0:=D.c0;have z1:=D.c1;have z2:=D.c2
    have BP:=ac (aN (uH HW) (b:=w.heap.size+1) (by omega) (.int .i64 0) (.int .i64 0) (.slice none 0 0))
    clear D d
    go_wp2_with fail
    exact bodyPost_ret (v:=.tuple #[.agg #[.int .i64 0,.int .i64 0,.slice none 0 0],.int .i64 3]) (by simp[results,Tryz.results124,go_sem,z0,z1,z2]) rfl ⟨uH J _ _ (.inr (.inl ⟨uH hG,h6,_,rfl,df.zero _ _⟩)),uH BP⟩
   ·have bx:(i:Int)≤6:=by omega
    obtain⟨A,b8⟩:∃A,A=wr:=⟨wr,rfl⟩
    subst b8
    obtain⟨N,hN⟩:∃N,r*i=N:=⟨_,rfl⟩
    have ce:N≤36:=by rw[←hN];exact Nat.mul_le_mul r6 (show i≤6 by omega)
    have e1:IntKind.i64.wrap ((r:Int)*(i:Int))=(N:Int):=by
     rw[cw r i,hN]
     exact d7 _ (by omega)
    have e2:(r:Int)*(i:Int)=(N:Int):=by rw[cw r i,hN]
    have e3:IntKind.i64.wrap (N:Int)=(N:Int):=d7 _ (by omega)
    obtain⟨w4,b9,ah,bg⟩:=run_make_own (P:=Tryz.prog) A A.heap.size 22 69 i0 (.int .u64 0) 1 Tryz.underlying22 b3 b4 b5 .i64 .i64 N (by rw[b6];omega) (by unfold maxLen;omega) (by simp)
    have B4:=ac (show Below A.heap.size A w4 from(Below.refl A.heap.size A).grown bg (by simp) (fun g hg=>by cases hg))
    have O4:=ac (show dP A.heap.size w4 (.slice (some ⟨A.heap.size,0,none⟩) 0 N) (lD F (0*i))from⟨by rw[Nat.zero_mul];simpa[lD]using ah,by rw[Nat.zero_mul];intro x hx;cases hx⟩)
    have y0:=(uH HA).c0
    have bz:=((uH HA).all (uH B4)).c0
    have bA:=ac hN
    clear ah bg hN
    go_wp2_with fail
    clear b9 y0 bz e1 e2 e3
    go_loopw[9,47] (fun v a wq=>∃p:Nat,p≤r∧a=.int .i64 p∧Hid (dP A.heap.size wq v (lD F (p*i)))∧Hid (Below A.heap.size A wq)) (fun _ a _=>r-(intOf a).toNat)
    case atStart=>exact⟨0,Nat.zero_le _,rfl,O4,B4⟩
    case round=>
     clear O4 B4
     obtain⟨p,hp,rfl,hO,z⟩:=hrel
     by_cases az:p<r
     ·have cm:(p:Int)<(r:Int):=by omega
      have a6:=ac (show dP A.heap.size wr u9 (lD F (p*i+0))from uH hO)
      clear hO
      go_wp2_with fail
      go_loopw[9,52] (fun v a wq=>∃k:Nat,k≤i∧a=.int .i64 k∧Hid (dP A.heap.size wq v (lD F (p*i+k)))∧Hid (Below A.heap.size A wq)) (fun _ a _=>i-(intOf a).toNat)
      case atStart=>exact⟨0,Nat.zero_le _,rfl,a6,z⟩
      case round=>
       clear a6 z
       obtain⟨k,hk,rfl,hO,z⟩:=hrel
       by_cases Z:k<i
       ·have co:(k:Int)<(i:Int):=by omega
        obtain⟨bi,bn⟩:=uH hG k Z
        have aI:=uH NV k Z bi
        obtain⟨b,b7,a0,be,hc⟩:=(uH HI).ne (by rw[uH aa];omega)
        have d0:=hc k (by rw[uH aa];exact Z)
        rw[show I[k]?.getD 0=jN I k from rfl,←aI]at d0
        have d1:=aG d0 (uH z)
        rw[←aI]at bn
        have eo:=uH FV p k Z
        generalize L.getD k 0=y at*
        have a7:y<c:=by omega
        obtain⟨b2,ci,ca,bo,G,_⟩:=(uH HM).cells az a7
        have hu:=(uH HM).el_lt p y
        have O:=cZ az a7
        generalize aS c S p y=u at*
        obtain⟨q,hq⟩:∃q,p*c=q:=⟨_,rfl⟩
        rw[hq]at G O
        obtain⟨x,hx⟩:∃x,q+y=x:=⟨_,rfl⟩
        rw[hx]at G O
        have bE:x<n:=by rw[uH HL];exact O
        have cp:(x:Int)<(n:Int):=by omega
        have e2:IntKind.i64.wrap ((p:Int)*(c:Int))=(q:Int):=by
         rw[cw p c,hq]
         exact d7 _ (by omega)
        have e3:IntKind.i64.wrap ((q:Int)+(y:Int))=(x:Int):=(d7 _ (by omega)).trans (by omega)
        have e5:(p:Int)*(c:Int)=(q:Int):=by rw[cw p c,hq]
        have e6:(q:Int)+(y:Int)=(x:Int):=by omega
        have e7:IntKind.i64.wrap (q:Int)=(q:Int):=d7 _ (by omega)
        have e8:IntKind.i64.wrap (x:Int)=(x:Int):=d7 _ (by omega)
        subst ca a0
        have y1:=((uH HA).all (uH z)).c1;have y2:=((uH HA).all (uH z)).c2
        have d2:=aG G (uH z)
        obtain⟨v3,w3,am,an,ar,_,_⟩:=(uH hO).push u hu (by rw[gu];have:=cZ az Z;have:=uH bA;omega) (uH z).size 22
        have a9:=ac am
        have O3:=ac (show dP A.heap.size w3 v3 (lD F (p*i+(k+1)))from by rw[←Nat.add_assoc,oN,eo];exact an)
        have B3:=ac ((uH z).trans ar)
        clear am an ar hO z hc d0 aI bi bn eo G O hq hx bE be bo
        go_wp2_with(at_builtin;refine eT _ rfl _ _ 22 rfl _ _ _ _ rfl rfl (uH a9) ?_;clear a9)
        go_round
        case rel=>exact⟨k+1,by omega,by go_num,O3,B3⟩
        case measure=>first|(simp[intOf];done)|(simp[intOf];omega)
       ·have bR:k=i:=by omega
        subst bR
        have b0:=ac (show dP A.heap.size wr u9 (lD F ((p+1)*k))from by rw[Nat.add_mul,Nat.one_mul];exact uH hO)
        clear hO
        go_wp2_with fail
        go_round
        case rel=>exact⟨p+1,by omega,by go_num,b0,z⟩
        case measure=>first|(simp[intOf];done)|(simp[intOf];omega)
     ·have O:p=r:=by omega
      subst O
      obtain⟨b1,d1,e1,q1⟩:=(uH hO).bits
      rw[gu]at e1
      subst e1
      have ba:=ac ((uH hO).newB.least (uH HW).size)
      have U:=(uH HX).all (uH z)
      have bb:=(uH HW).trans ((uH z).mono (uH HW).size)
      have y0:=((uH HA).all (uH z)).c0
      obtain⟨M2,a1⟩:∃M2,p*i=M2:=⟨_,rfl⟩
      have bd:=ac a1
      rw[a1]at q1⊢
      have s0:=U.c0;have s1:=U.c1;have s2:=U.c2
      have f0:=U.free 0;have f1:=U.free 1;have f2:=U.free 2
      have D:=U.put (.int .i64 (p:Nat)) (.int .i64 (i:Nat)) (.slice b1 M2 d1)
      have z0:=D.c0;have z1:=D.c1;have z2:=D.c2
      have QP:=ac (ap.putM q1 U (.int .i64 (p:Nat)) (.int .i64 (i:Nat)) (.slice b1 M2 d1))
      have BP:=ac (aN bb (b:=w.heap.size+1) (by omega) (.int .i64 (p:Nat)) (.int .i64 (i:Nat)) (.slice b1 M2 d1))
      clear q1 hO U z D bb a1
      go_wp2_with fail
      exact bodyPost_ret (v:=.tuple #[.agg #[.int .i64 p,.int .i64 i,.slice b1 M2 d1],.int .i64 0]) (by simp[results,Tryz.results124,go_sem,z0,z1,z2]) rfl ⟨uH J _ _ (.inr (.inr ⟨uH hG,by omega,_,rfl,⟨b1,d1,by rw[gu,uH bd],uH ba,by rw[uH bd];exact uH QP⟩⟩)),uH BP⟩
end Go.Proofs.YtcbcmlaogehimaaGreatDoor
