/- Part 32 of the texts. -/
import Derived.Test.YtcbcmlaogehimaaGreatDoorPartr31
set_option maxHeartbeats 16000000
set_option maxRecDepth 20000
namespace Go.Proofs.YtcbcmlaogehimaaGreatDoor
open Go.RowKit
attribute [local go_sem ↓] Go.wp_at_zero Go.wp_at_succ
theorem DH{S:List Nat}(h:∀x∈S,x<18446744073709551616)(k:Int):∀x∈fw S k,x<18446744073709551616:=by
 intro x d
 unfold fw at d
 obtain⟨p,_,rfl⟩:=List.mem_map.1 d
 refine oy _ _ ?_
 rw[List.getD_eq_getElem?_getD]
 cases e:S[p]? with
 |none=>decide
 |some v=>exact h v (List.mem_of_getElem? e)
theorem GN(r c:Nat)(S:List Nat):∀x∈mU r c S,x<18446744073709551616:=by
 intro x d
 unfold mU at d
 obtain⟨p,_,rfl⟩:=List.mem_map.1 d
 exact wh _ _ _ _
def uq(A:List Nat):Int:=eX (ja (bH A) A.length)
def iF(r c:Nat)(A:List Nat):Sd:=GG r c (fw A (-uq A)) 60
def ge(r c:Nat)(A:List Nat):List Nat:=ev (mU r c (iF r c A).W) c
def cN(r c:Nat)(A:List Nat):List Nat:=fw (uc r c (iF r c A).W (ge r c A)) (uq A)
def dR(r c:Nat)(A:List Nat):List Nat:=uc c c (iF r c A).V (ge r c A)
def pO(r c:Nat)(A:List Nat):Bool:=gq (cN r c A)&&gq (dR r c A)
def rq(B:Nat)(w':World)(r c:Nat)(still fin:Bool)(W V:List Nat)(e:Ending):Prop:=
 (still=false∧e=.returned (.tuple #[.agg #[.int .i64 0,.int .i64 0,.slice none 0 0],.agg #[.int .i64 0,.int .i64 0,.slice none 0 0],.slice none 0 0,.int .i64 6]))∨
 (still=true∧fin=false∧e=.returned (.tuple #[.agg #[.int .i64 0,.int .i64 0,.slice none 0 0],.agg #[.int .i64 0,.int .i64 0,.slice none 0 0],.slice none 0 0,.int .i64 2]))∨
 (still=true∧fin=true∧∃v1 v2 g,e=.returned (.tuple #[v1,v2,.slice (some ⟨g,0,none⟩) c c,.int .i64 0])∧df B w' r c W v1∧df B w' c c V v2∧B≤g∧bW w' g (mU r c W))
def DI(B:Nat)(w':World)(r c:Nat)(A:List Nat)(e:Ending):Prop:=rq B w' r c (iF r c A).still (pO r c A) (cN r c A) (dR r c A) e
theorem DJ(I:List Nat)(n:Nat){j:Nat}(d:j<n):jN (bH (ev I n)) j=(((ev I n).getD j 0:Nat):Int)∧(ev I n).getD j 0<n:=by
 have h:=fH I n
 refine⟨?_,?_⟩
 ·unfold jN bH
  rw[List.getElem?_map,List.getElem?_eq_getElem (by omega),List.getD_eq_getElem?_getD,List.getElem?_eq_getElem (by omega)]
  rfl
 ·refine li I n _ ?_
  rw[List.getD_eq_getElem?_getD,List.getElem?_eq_getElem (by omega)]
  exact List.getElem_mem _
theorem o4(r c d z:Nat)(A:Option Addr)(S I:List Nat)(w:World)(h:Mx w A d r c S)(J:bK w z (ev I c)):
  Calls Tryz.prog 124 #[.agg #[.int .i64 r,.int .i64 c,.slice A S.length d],.slice (some ⟨z,0,none⟩) c c] w fun e D=>∃v,e=.returned (.tuple #[v,.int .i64 0])∧df w.heap.size D r c (uc r c S (ev I c)) v∧Below w.heap.size w D:=by
 have L:=h.2.2.2
 have u:=fH I c
 have G:=J.ints (fun x K=>by have:=li I c x K;omega)
 rw[u]at G
 have q:=zH r c d c A (some ⟨z,0,none⟩) S (bH (ev I c)) w h G (by rw[aH,u];omega)
 rw[aH,u]at q
 refine q.mono ?_
 rintro e D ⟨F,O⟩
 unfold xQ at F
 rw[aH,u,tX]at F
 rcases F with⟨⟨j,Q,H⟩,_⟩|⟨_,Y,_⟩|⟨_,_,v,rfl,U⟩
 ·obtain⟨N,X⟩:=DJ I c Q
  rw[N]at H
  exact absurd ⟨by omega,by omega⟩ H
 ·omega
 ·exact⟨v,rfl,U,O⟩
structure iG (w wr:World) (g r c N M:Nat) (W V:List Nat) (wo vo:Option Addr) (wc vc:Nat):Prop where
 bel:Below w.heap.size w wr
 b4:aL wr (w.heap.size+1) (.int .i64 0) (.int .i64 0) (.slice none 0 0)
 b5:aL wr (w.heap.size+1+1) (.int .i64 0) (.int .i64 0) (.slice none 0 0)
 bw:aL wr g (.int .i64 r) (.int .i64 c) (.slice wo N wc)
 bv:aL wr (g+1) (.int .i64 c) (.int .i64 c) (.slice vo M vc)
 hg:w.heap.size+1+1<g
 mw:Mx wr wo wc r c W
 mv:Mx wr vo vc c c V
 hN:W.length=N
 hM:V.length=M
theorem iG.all{w wr u:World}{g r c N M:Nat}{W V:List Nat}{z A:Option Addr}{wc D:Nat}(h:iG w wr g r c N M W V z A wc D)(d:Below wr.heap.size wr u):iG w u g r c N M W V z A wc D:=
 ⟨h.bel.trans (d.mono h.bel.size),h.b4.all d,h.b5.all d,h.bw.all d,h.bv.all d,h.hg,h.mw.below d,h.mv.below d,h.hN,h.hM⟩
theorem iG.putW{w wr:World}{g r c N M:Nat}{W V:List Nat}{F A:Option Addr}{wc D:Nat}(h:iG w wr g r c N M W V F A wc D){z:List Nat}{d:Option Addr}{u:Nat}(G:Mx wr d u r c z)(H:z.length=N):
  iG w (((wr.setCell ⟨g,0,none⟩ (.int .i64 r)).setCell ⟨g,1,none⟩ (.int .i64 c)).setCell ⟨g,2,none⟩ (.slice d N u)) g r c N M z V d A u D:=by
 have I:=h.hg
 exact⟨aN (b:=g) h.bel (by omega) _ _ _,h.b4.three (by omega) _ _ _,h.b5.three (by omega) _ _ _,h.bw.put _ _ _,h.bv.three (by omega) _ _ _,I,G.putM h.bw _ _ _,h.mv.putM h.bw _ _ _,H,h.hM⟩
theorem iG.putV{w wr:World}{g r c N M:Nat}{W V:List Nat}{A D:Option Addr}{wc F:Nat}(h:iG w wr g r c N M W V A D wc F){z:List Nat}{d:Option Addr}{u:Nat}(G:Mx wr d u c c z)(H:z.length=M):
  iG w (((wr.setCell ⟨g+1,0,none⟩ (.int .i64 c)).setCell ⟨g+1,1,none⟩ (.int .i64 c)).setCell ⟨g+1,2,none⟩ (.slice d M u)) g r c N M W z A d wc u:=by
 have I:=h.hg
 exact⟨aN (b:=g+1) h.bel (by omega) _ _ _,h.b4.three (by omega) _ _ _,h.b5.three (by omega) _ _ _,h.bw.three (by omega) _ _ _,h.bv.put _ _ _,I,h.mw.putM h.bv _ _ _,G.putM h.bv _ _ _,h.hN,H⟩
theorem iG.out{w wr:World}{g r c N M:Nat}{W V:List Nat}{J K:Option Addr}{wc L:Nat}(h:iG w wr g r c N M W V J K wc L)(d u z D G H:Value)(F:World)
  (hF:F=((((((wr.setCell ⟨w.heap.size+1,0,none⟩ d).setCell ⟨w.heap.size+1,1,none⟩ u).setCell ⟨w.heap.size+1,2,none⟩ z).setCell ⟨w.heap.size+1+1,0,none⟩ D).setCell ⟨w.heap.size+1+1,1,none⟩ G).setCell ⟨w.heap.size+1+1,2,none⟩ H)):
  aL F (w.heap.size+1) d u z∧aL F (w.heap.size+1+1) D G H∧Below w.heap.size w F∧∀A c I,ap wr A c I→ap F A c I:=by
 subst hF
 have x:=h.b4.put d u z
 have y:=h.b5.three (g:=w.heap.size+1) (by omega) d u z
 exact⟨x.three (by omega) _ _ _,y.put _ _ _,aN (b:=w.heap.size+1+1) (aN (b:=w.heap.size+1) h.bel (by omega) _ _ _) (by omega) _ _ _,fun A c I q=>(ap.putM q h.b4 _ _ _).putM y _ _ _⟩
theorem rr(r c N M H:Nat)(ao:Option Addr)(A:List Nat)(w:World)(h:Mx w ao H r c A)(hN:A.length=N)(hM:c*c=M)(hT:ch w):
  Calls Tryz.prog 64 #[.agg #[.int .i64 r,.int .i64 c,.slice ao N H],.int .i64 60] w fun e w'=>DI w.heap.size w' r c A e∧Below w.heap.size w w':=by
 have b3:=oP w (.int .i64 r) (.int .i64 c) (.slice ao N H) (.int .i64 0) (.int .i64 0) (.slice none 0 0) (.int .i64 0) (.int .i64 0) (.slice none 0 0) (((w.alloc (.cells #[.int .i64 r,.int .i64 c,.slice ao N H] 24)).alloc (.cells #[.int .i64 0,.int .i64 0,.slice none 0 0] 24)).alloc (.cells #[.int .i64 0,.int .i64 0,.slice none 0 0] 24)) (by have:=Below.refl (((w.alloc (.cells #[.int .i64 r,.int .i64 c,.slice ao N H] 24)).alloc (.cells #[.int .i64 0,.int .i64 0,.slice none 0 0] 24)).alloc (.cells #[.int .i64 0,.int .i64 0,.slice none 0 0] 24)).heap.size (((w.alloc (.cells #[.int .i64 r,.int .i64 c,.slice ao N H] 24)).alloc (.cells #[.int .i64 0,.int .i64 0,.slice none 0 0] 24)).alloc (.cells #[.int .i64 0,.int .i64 0,.slice none 0 0] 24));simpa only[aq]using this)
 have s3:(((w.alloc (.cells #[.int .i64 r,.int .i64 c,.slice ao N H] 24)).alloc (.cells #[.int .i64 0,.int .i64 0,.slice none 0 0] 24)).alloc (.cells #[.int .i64 0,.int .i64 0,.slice none 0 0] 24)).heap.size=w.heap.size+1+1+1:=by simp only[aq]
 obtain⟨b0,x0,x1,x2⟩:=b3
 have ah:=h.2.2.1;have aa:=h.2.2.2
 have bz:=h.small
 have LA:=ac (show(bH A).length=N from(aH A).trans hN)
 have Z:=x0.c2
 have K1:=ac (kT ao H (bH A) _ (h.below b0).1 (by rw[aH];omega))
 rw[uH LA]at K1
 have RN:=ac (show r*c=N∧c*c=M from⟨h.2.1.symm.trans hN,hM⟩)
 have HK:=ac (show eX (ja (bH A) N)=uq A from by unfold uq;rw[hN])
 have I:=ac b0;have G:=ac (And.intro x0 (And.intro x1 x2));have S3:=ac s3;have HM:=ac h;have HT:=ac hT;have HN:=ac hN
 have hk:=kU (ja (bH A) N) (mi _ _)
 have aI:=mi (bH A) N
 rw[uH HK]at hk
 have DD:=ac (show iF r c A=GG r c (fw A (-uq A)) 60 from rfl)
 have PP:=ac (show ge r c A=ev (mU r c (iF r c A).W) c from rfl)
 have WW:=ac (show cN r c A=fw (uc r c (iF r c A).W (ge r c A)) (uq A)from rfl)
 have VV:=ac (show dR r c A=uc c c (iF r c A).V (ge r c A)from rfl)
 have FF:=ac (show pO r c A=(gq (cN r c A)&&gq (dR r c A))from rfl)
 show Calls _ _ _ _ fun e w'=>rq w.heap.size w' r c (iF r c A).still (pO r c A) (cN r c A) (dR r c A) e∧Below w.heap.size w w'
 generalize pO r c A=F9 at*
 generalize dR r c A=V9 at*
 generalize cN r c A=W9 at*
 generalize ge r c A=Q at*
 generalize iF r c A=s at*
 clear b0 x0 x1 x2 s3 h hT hN
 generalize ja (bH A) N=bg at*
 generalize bR:uq A=k at*
 go_enter Tryz.func64,Tryz.ntmps64
 go_wp2_with fail
 clear Z
 refine Calls.mono (uH K1) ?_
 rintro e w3 ⟨rfl,D⟩
 replace I:=ac ((uH I).trans (D.mono (uH I).size))
 rw[uH S3]at D
 replace G:=ac (And.intro ((uH G).1.below D (by omega)) (And.intro ((uH G).2.1.below D (by omega)) ((uH G).2.2.below D (by omega))))
 have SZ:=ac (show w.heap.size+1+1+1≤w3.heap.size from by have:=D.size;have:=uH S3;omega)
 clear D K1
 go_wp2_with fail
 refine(tn bg w3 aI ((uH HT).all (uH I))).mono ?_
 rintro e w4 ⟨rfl,D⟩
 rw[uH HK]
 have bo:=fun(D:Below w3.heap.size w3 w4)=>(uH G)
 replace I:=ac ((uH I).trans (D.mono (uH I).size))
 replace G:=ac (And.intro ((uH G).1.all D) (And.intro ((uH G).2.1.all D) ((uH G).2.2.all D)))
 replace SZ:=ac (Nat.le_trans (uH SZ) D.size)
 clear D bo HK aI
 have nk:IntKind.i64.wrap (-k)= -k:=d7 _ (by omega)
 have y0:=(uH G).1.c0;have y1:=(uH G).1.c1;have Z:=(uH G).1.c2
 have K2:=ac (mL r c H (-k) ao A w4 ((uH HM).below (uH I)) ((uH HT).all (uH I)))
 rw[uH HN]at K2
 go_wp2_with fail
 clear y0 y1 Z
 refine Calls.mono (uH K2) ?_
 rintro e w5 ⟨ga,rfl,bq,a9,D⟩
 replace I:=ac ((uH I).trans (D.mono (uH I).size))
 replace G:=ac (And.intro ((uH G).1.all D) (And.intro ((uH G).2.1.all D) ((uH G).2.2.all D)))
 replace SZ:=ac (Nat.le_trans (uH SZ) D.size)
 have lA:(fw A (-k)).length=N:=(jK _ _).trans (uH HN)
 have a3:=DH (uH HM).1.nat (-k)
 have ma:Mx w5 (some ⟨ga,0,none⟩) N r c (fw A (-k)):=⟨by have:=a9.bits a3;rw[lA]at this;exact this,lA.trans (uH RN).1.symm,ah,aa⟩
 have K3:=ac (ui r c N M 60 N (some ⟨ga,0,none⟩) (fw A (-k)) w5 ma lA (uH RN).2 (by omega) ((uH HT).all (uH I)))
 rw[←uH DD]at K3
 clear D K2 a9 ma lA a3 bq
 go_wp2_with fail
 refine Calls.mono (uH K3) ?_
 rintro e w6 ⟨⟨wo,wc,vo,vc,rfl,hW,hV,ba,bb⟩,D⟩
 replace I:=ac ((uH I).trans (D.mono (uH I).size))
 replace G:=ac (And.intro ((uH G).1.all D) (And.intro ((uH G).2.1.all D) ((uH G).2.2.all D)))
 replace SZ:=ac (Nat.le_trans (uH SZ) D.size)
 clear D K3 DD
 have b1:=ad w6 (.cells #[.int .i64 r,.int .i64 c,.slice wo N wc] 24)
 have z1:=aq w6 (.cells #[.int .i64 r,.int .i64 c,.slice wo N wc] 24)
 have x1:=aL.new w6 (.int .i64 r) (.int .i64 c) (.slice wo N wc)
 have b2:=ad (w6.alloc (.cells #[.int .i64 r,.int .i64 c,.slice wo N wc] 24)) (.cells #[.int .i64 c,.int .i64 c,.slice vo M vc] 24)
 have x2:=aL.new (w6.alloc (.cells #[.int .i64 r,.int .i64 c,.slice wo N wc] 24)) (.int .i64 c) (.int .i64 c) (.slice vo M vc)
 rw[z1]at x2
 have ae:=b1.trans (b2.mono b1.size)
 have z:=ac (show iG w _ w6.heap.size r c N M s.W s.V wo vo wc vc from⟨(uH I).trans (ae.mono (uH I).size),(uH G).2.1.all ae,(uH G).2.2.all ae,x1.all b2,x2,by have:=uH SZ;omega,hW.below ae,hV.below ae,ba,bb⟩)
 clear b1 b2 x1 x2 ae z1 hW hV ba bb I G SZ HM
 cases hst:s.still
 ·skip
  have d:=uH z
  have s0:=d.b4.c0;have s1:=d.b4.c1;have s2:=d.b4.c2;have f0:=d.b4.free 0;have f1:=d.b4.free 1;have f2:=d.b4.free 2
  have F:=d.b5.three (g:=w.heap.size+1) (by omega) (.int .i64 0) (.int .i64 0) (.slice none 0 0)
  have t0:=F.c0;have t1:=F.c1;have t2:=F.c2;have g0:=F.free 0;have g1:=F.free 1;have g2:=F.free 2
  have u:=ac (d.out (.int .i64 0) (.int .i64 0) (.slice none 0 0) (.int .i64 0) (.int .i64 0) (.slice none 0 0) _ rfl)
  have a0:=(uH u).1.c0;have a1:=(uH u).1.c1;have a2:=(uH u).1.c2;have b0:=(uH u).2.1.c0;have b1:=(uH u).2.1.c1;have b2:=(uH u).2.1.c2
  clear F
  clear d z
  go_wp2_with fail
  exact bodyPost_ret (v:=.tuple #[.agg #[.int .i64 0,.int .i64 0,.slice none 0 0],.agg #[.int .i64 0,.int .i64 0,.slice none 0 0],.slice none 0 0,.int .i64 6]) (by simp[results,Tryz.results64,go_sem,a0,a1,a2,b0,b1,b2]) rfl ⟨.inl ⟨by first|rfl|exact hst,rfl⟩,(uH u).2.2.1⟩
 ·have y0:=(uH z).bw.c0;have y1:=(uH z).bw.c1;have Z:=(uH z).bw.c2
  go_wp2_with fail
  clear y0 y1 Z
  generalize (w6.alloc (.cells #[.int .i64 r,.int .i64 c,.slice wo N wc] 24)).alloc (.cells #[.int .i64 c,.int .i64 c,.slice vo M vc] 24)=w7 at*
  generalize w6.heap.size=g at*
  have SQ:=ac (uH PP).symm
  have LQ:=ac (show Q.length=c from by rw[uH PP];exact fH _ _)
  have K:=ac (mK r c wc wo s.W w7 (uH z).mw ((uH HT).all (uH z).bel))
  rw[(uH z).hN]at K
  refine Calls.mono (uH K) ?_
  rintro e w8 ⟨gn,rfl,_,bd,D⟩
  replace z:=ac ((uH z).all D)
  have HR:=ac (bd.bits (GN r c s.W))
  rw[oV]at HR
  clear D K bd
  have K:=ac (um c (some ⟨gn,0,none⟩) (mU r c s.W) w8 (by rw[oV];exact aa) (uH HR))
  rw[oV,uH SQ]at K
  go_wp2_with fail
  refine Calls.mono (uH K) ?_
  rintro e w9 ⟨gp,rfl,bs,ax,D⟩
  have GP:=ac (show gp≠g from by have:=(uH z).bw.lt;omega)
  replace z:=ac ((uH z).all D)
  rw[←uH SQ]at ax
  have RI:=ac ax
  clear D K ax HR bs
  have y0:=(uH z).bw.c0;have y1:=(uH z).bw.c1;have Z:=(uH z).bw.c2
  go_wp2_with fail
  clear y0 y1 Z
  have K:=ac (o4 r c wc gp wo s.W (mU r c s.W) _ (uH z).mw (uH RI))
  rw[(uH z).hN,uH SQ]at K
  refine Calls.mono (uH K) ?_
  rintro e w8 ⟨v8,rfl,az,D⟩
  obtain⟨an,ar,rfl,bp,q8⟩:=az
  have l8:(uc r c s.W Q).length=N:=(iZ _ _ _ _).trans ((congrArg (r* ·) (uH LQ)).trans (uH RN).1)
  rw[l8]
  have d:=(uH z).all D
  replace RI:=ac ((uH RI).all D)
  have s0:=d.bw.c0;have s1:=d.bw.c1;have s2:=d.bw.c2;have f0:=d.bw.free 0;have f1:=d.bw.free 1;have f2:=d.bw.free 2
  have X:=ac (d.putW (⟨q8,(iZ _ _ _ _).trans (congrArg (r* ·) (uH LQ)),ah,aa⟩:Mx w8 an ar r c (uc r c s.W Q)) l8)
  replace RI:=ac ((uH RI).three (g:=g) (uH GP) (.int .i64 (r:Nat)) (.int .i64 (c:Nat)) (.slice an N ar))
  clear d z D K q8 bp l8
  have y0:=(uH X).bv.c0;have y1:=(uH X).bv.c1;have Z:=(uH X).bv.c2
  go_wp2_with fail
  clear s0 s1 s2 f0 f1 f2 y0 y1 Z
  have z:=X
  clear X
  have K:=ac (o4 c c vc gp vo s.V (mU r c s.W) _ (uH z).mv (uH RI))
  rw[(uH z).hM,uH SQ]at K
  refine Calls.mono (uH K) ?_
  rintro e w8 ⟨v8,rfl,az,D⟩
  obtain⟨J,L,rfl,a7,q8⟩:=az
  have l8:(uc c c s.V Q).length=M:=(iZ _ _ _ _).trans ((congrArg (c* ·) (uH LQ)).trans (uH RN).2)
  rw[l8]
  have NV:=ac (a7.least (uH z).bel.size)
  have d:=(uH z).all D
  replace RI:=ac ((uH RI).all D)
  have s0:=d.bv.c0;have s1:=d.bv.c1;have s2:=d.bv.c2;have f0:=d.bv.free 0;have f1:=d.bv.free 1;have f2:=d.bv.free 2
  have X:=ac (d.putV (⟨q8,(iZ _ _ _ _).trans (congrArg (c* ·) (uH LQ)),aa,aa⟩:Mx w8 J L c c (uc c c s.V Q)) l8)
  clear RI
  clear d z D K q8 a7 l8
  have y0:=(uH X).bw.c0;have y1:=(uH X).bw.c1;have Z:=(uH X).bw.c2
  go_wp2_with fail
  clear s0 s1 s2 f0 f1 f2 y0 y1 Z
  have z:=X
  clear X
  have K:=ac (mL r c ar k an (uc r c s.W Q) _ (uH z).mw ((uH HT).all (uH z).bel))
  rw[(uH z).hN,←uH WW]at K
  refine Calls.mono (uH K) ?_
  rintro e w8 ⟨gw,rfl,be,bi,D⟩
  have NW:=ac (show tU w.heap.size (some ⟨gw,0,none⟩) (bH W9)from .inr ⟨gw,0,rfl,Nat.le_trans (uH z).bel.size be⟩)
  have l9:W9.length=N:=by rw[uH WW,jK];exact(uH z).hN
  have a4:∀x∈W9,x<18446744073709551616:=by rw[uH WW];exact DH (uH z).mw.1.nat k
  have q9:=bi.bits a4
  rw[l9]at q9
  have d:=(uH z).all D
  have s0:=d.bw.c0;have s1:=d.bw.c1;have s2:=d.bw.c2;have f0:=d.bw.free 0;have f1:=d.bw.free 1;have f2:=d.bw.free 2
  have X:=ac (d.putW (⟨q9,l9.trans (uH RN).1.symm,ah,aa⟩:Mx w8 (some ⟨gw,0,none⟩) N r c W9) l9)
  clear d z D K q9 bi be WW a4
  have Z:=(uH X).bw.c2
  go_wp2_with fail
  clear s0 s1 s2 f0 f1 f2 Z
  have z:=X
  clear X
  rw[←uH VV]at z NV
  have K:=ac (mI (some ⟨gw,0,none⟩) N (bH W9) _ (uH z).mw.1 (by rw[aH,l9];have:=(uH z).mw.small;omega))
  rw[aH,l9,show iX (bH W9) N=gq W9 from by unfold gq;rw[l9]]at K
  refine Calls.mono (uH K) ?_
  rintro e w8 ⟨rfl,D⟩
  replace z:=ac ((uH z).all D)
  clear D K
  cases hf:gq W9
  ·skip
   have d:=uH z
   have s0:=d.b4.c0;have s1:=d.b4.c1;have s2:=d.b4.c2;have f0:=d.b4.free 0;have f1:=d.b4.free 1;have f2:=d.b4.free 2
   have F:=d.b5.three (g:=w.heap.size+1) (by omega) (.int .i64 0) (.int .i64 0) (.slice none 0 0)
   have t0:=F.c0;have t1:=F.c1;have t2:=F.c2;have g0:=F.free 0;have g1:=F.free 1;have g2:=F.free 2
   have u:=ac (d.out (.int .i64 0) (.int .i64 0) (.slice none 0 0) (.int .i64 0) (.int .i64 0) (.slice none 0 0) _ rfl)
   have a0:=(uH u).1.c0;have a1:=(uH u).1.c1;have a2:=(uH u).1.c2;have b0:=(uH u).2.1.c0;have b1:=(uH u).2.1.c1;have b2:=(uH u).2.1.c2
   clear F
   clear d z
   go_wp2_with fail
   exact bodyPost_ret (v:=.tuple #[.agg #[.int .i64 0,.int .i64 0,.slice none 0 0],.agg #[.int .i64 0,.int .i64 0,.slice none 0 0],.slice none 0 0,.int .i64 2]) (by simp[results,Tryz.results64,go_sem,a0,a1,a2,b0,b1,b2]) rfl ⟨.inr (.inl ⟨by first|rfl|exact hst,by rw[uH FF,hf];rfl,rfl⟩),(uH u).2.2.1⟩
  ·have Z:=(uH z).bv.c2
   have am:=(uH z).hM
   have K:=ac (mI J L (bH V9) w8 (uH z).mv.1 (by rw[aH];have:=(uH z).mv.small;omega))
   rw[aH,am,show iX (bH V9) M=gq V9 from by unfold gq;rw[am]]at K
   go_wp2_with fail
   clear Z
   refine Calls.mono (uH K) ?_
   rintro e bA ⟨rfl,D⟩
   replace z:=ac ((uH z).all D)
   clear D K
   cases hv:gq V9
   ·skip
    have d:=uH z
    have s0:=d.b4.c0;have s1:=d.b4.c1;have s2:=d.b4.c2;have f0:=d.b4.free 0;have f1:=d.b4.free 1;have f2:=d.b4.free 2
    have F:=d.b5.three (g:=w.heap.size+1) (by omega) (.int .i64 0) (.int .i64 0) (.slice none 0 0)
    have t0:=F.c0;have t1:=F.c1;have t2:=F.c2;have g0:=F.free 0;have g1:=F.free 1;have g2:=F.free 2
    have u:=ac (d.out (.int .i64 0) (.int .i64 0) (.slice none 0 0) (.int .i64 0) (.int .i64 0) (.slice none 0 0) _ rfl)
    have a0:=(uH u).1.c0;have a1:=(uH u).1.c1;have a2:=(uH u).1.c2;have b0:=(uH u).2.1.c0;have b1:=(uH u).2.1.c1;have b2:=(uH u).2.1.c2
    clear F
    clear d z
    go_wp2_with fail
    exact bodyPost_ret (v:=.tuple #[.agg #[.int .i64 0,.int .i64 0,.slice none 0 0],.agg #[.int .i64 0,.int .i64 0,.slice none 0 0],.slice none 0 0,.int .i64 2]) (by simp[results,Tryz.results64,go_sem,a0,a1,a2,b0,b1,b2]) rfl ⟨.inr (.inl ⟨by first|rfl|exact hst,by rw[uH FF,hf,hv];rfl,rfl⟩),(uH u).2.2.1⟩
   ·go_wp2_with fail
    refine al (fun W=>iG w W g r c N M W9 V9 (some ⟨gw,0,none⟩) J N L) (uH z) ?_
    clear z
    rintro U d
    have d:=d.all (Below.refl U.heap.size U).drew
    have a5:=ac (mK r c N (some ⟨gw,0,none⟩) W9 U.drew d.mw ((uH HT).all d.bel))
    rw[l9]at a5
    have H0:=ac (And.intro d.bw.c0 (And.intro d.bw.c1 (And.intro d.bw.c2 (And.intro d.bv.c0 (And.intro d.bv.c1 d.bv.c2)))))
    have z:=ac d
    clear d
    refine wp_region_held_drew (S:=fun w'=>w'.cell? ⟨g,0,none⟩=some (.int .i64 (r:Nat))∧w'.cell? ⟨g,1,none⟩=some (.int .i64 (c:Nat))∧w'.cell? ⟨g,2,none⟩=some (.slice (some ⟨gw,0,none⟩) N N)∧w'.cell? ⟨g+1,0,none⟩=some (.int .i64 (c:Nat))∧w'.cell? ⟨g+1,1,none⟩=some (.int .i64 (c:Nat))∧w'.cell? ⟨g+1,2,none⟩=some (.slice J M L)) (by kernel_rfl) ?_ (fun Y=>?_)
    ·exact uH H0
    refine wpAnyH_take (i:=0) (oi:={dst:=some 61,op:=Op.load 24 (Operand.tmp 9),type:=24,pos:= "svd.go:48",after:=#[],guard:=none}) (v:=.agg #[.int .i64 (r:Nat),.int .i64 (c:Nat),.slice (some ⟨gw,0,none⟩) N N]) rfl (by kernel_rfl) (by kernel_rfl) (by kernel_rfl) (fun _ _ _ h=>h) (Or.inl ⟨by rfl,?_⟩) (by assumption) ?_
    ·(intro w O;(try dsimp only at O);go_simp)
    simp only[Act.put,List.setIfInBounds_toArray,List.set_cons_zero,List.set_cons_succ]
    refine wpAnyH_take (i:=1) (oi:={dst:=some 62,op:=Op.load 24 (Operand.tmp 10),type:=24,pos:= "svd.go:48",after:=#[{on:=4,ground:=Ground.gcOnly Departure.lateStores}],guard:=none}) (v:=.agg #[.int .i64 (c:Nat),.int .i64 (c:Nat),.slice J M L]) rfl (by kernel_rfl) (by kernel_rfl) (by kernel_rfl) (fun _ _ _ h=>h) (Or.inl ⟨by rfl,?_⟩) (by assumption) ?_
    ·(intro w O;(try dsimp only at O);go_simp)
    simp only[Act.put,List.setIfInBounds_toArray,List.set_cons_zero,List.set_cons_succ]
    refine wpAnyH_take (i:=2) (oi:={dst:=some 63,op:=Op.load 24 (Operand.tmp 9),type:=24,pos:= "svd.go:48",after:=#[],guard:=none}) (v:=.agg #[.int .i64 (r:Nat),.int .i64 (c:Nat),.slice (some ⟨gw,0,none⟩) N N]) rfl (by kernel_rfl) (by kernel_rfl) (by kernel_rfl) (fun _ _ _ h=>h) (Or.inl ⟨by rfl,?_⟩) (by assumption) ?_
    ·(intro w O;(try dsimp only at O);go_simp)
    simp only[Act.put,List.setIfInBounds_toArray,List.set_cons_zero,List.set_cons_succ]
    refine wpAnyH_ready (rs:=[3]) (by kernel_rfl) (by simp) ?_
    refine AllReadyH.cons (o:={dst:=some 64,op:=Op.call {callee:=Callee.value (Operand.func 123),args:=#[Operand.tmp 63],argTypes:=#[24]},type:=22,pos:= "svd.go:48",after:=#[{on:=2,ground:=Ground.data}],guard:=none}) rfl (fun K hK=>?_) AllReadyH.nil
    go_simp
    refine Calls.mono (uH a5) ?_
    rintro e bE ⟨gs,rfl,bx,bn,D⟩
    have d:=(uH z).all D
    have GS:=ac (Nat.le_trans (uH z).bel.size bx);have a6:=ac (show w.heap.size+1+1<gs from by have:=(uH z).b5.lt;omega)
    have RS:=ac bn
    have hg:=d.hg
    have s0:=d.b4.c0;have s1:=d.b4.c1;have s2:=d.b4.c2;have f0:=d.b4.free 0;have f1:=d.b4.free 1;have f2:=d.b4.free 2
    have F:=d.b5.three (g:=w.heap.size+1) (by omega) (.int .i64 (r:Nat)) (.int .i64 (c:Nat)) (.slice (some ⟨gw,0,none⟩) N N)
    have t0:=F.c0;have t1:=F.c1;have t2:=F.c2;have g0:=F.free 0;have g1:=F.free 1;have g2:=F.free 2
    have u:=ac (d.out (.int .i64 (r:Nat)) (.int .i64 (c:Nat)) (.slice (some ⟨gw,0,none⟩) N N) (.int .i64 (c:Nat)) (.int .i64 (c:Nat)) (.slice J M L) _ rfl)
    have a0:=(uH u).1.c0;have a1:=(uH u).1.c1;have a2:=(uH u).1.c2;have b0:=(uH u).2.1.c0;have b1:=(uH u).2.1.c1;have b2:=(uH u).2.1.c2
    clear F
    have H3:=ac (And.intro d.bw.c0 (And.intro d.bw.c1 (And.intro d.bw.c2 (And.intro d.bv.c0 (And.intro d.bv.c1 d.bv.c2)))))
    have YY:=d.bw.three (g:=w.heap.size+1) (by omega) (.int .i64 (r:Nat)) (.int .i64 (c:Nat)) (.slice (some ⟨gw,0,none⟩) N N);have UU:=d.bv.three (g:=w.heap.size+1) (by omega) (.int .i64 (r:Nat)) (.int .i64 (c:Nat)) (.slice (some ⟨gw,0,none⟩) N N)
    have H1:=ac (And.intro YY.c0 (And.intro YY.c1 (And.intro YY.c2 (And.intro UU.c0 (And.intro UU.c1 UU.c2)))))
    have Y2:=YY.three (g:=w.heap.size+1+1) (by omega) (.int .i64 (c:Nat)) (.int .i64 (c:Nat)) (.slice J M L);have U2:=UU.three (g:=w.heap.size+1+1) (by omega) (.int .i64 (c:Nat)) (.int .i64 (c:Nat)) (.slice J M L)
    have H2:=ac (And.intro Y2.c0 (And.intro Y2.c1 (And.intro Y2.c2 (And.intro U2.c0 (And.intro U2.c1 U2.c2)))))
    have X:=ac d
    clear d D bn hg YY UU Y2 U2
    go_wp2_with fail
    refine hK.out _ _ ?_ (fun Y=>?_)
    ·exact uH H3
    clear hK K
    refine wpAnyH_ready (rs:=[4]) (by kernel_rfl) (by simp) ?_
    refine AllReadyH.cons (o:={dst:=none,op:=Op.store 24 (Operand.tmp 4) (Operand.tmp 61),type:=0,pos:= "svd.go:48",after:=#[{on:=0,ground:=Ground.data},{on:=3,ground:=Ground.chain},{on:=0,ground:=Ground.phase},{on:=1,ground:=Ground.textOnly Departure.lateStores},{on:=2,ground:=Ground.textOnly Departure.lateStores},{on:=3,ground:=Ground.textOnly Departure.lateStoresUnsure}],guard:=none}) rfl (fun K hK=>?_) AllReadyH.nil
    go_simp
    refine hK.out _ _ ?_ (fun Y=>?_)
    ·exact uH H1
    clear hK K
    refine wpAnyH_ready (rs:=[5]) (by kernel_rfl) (by simp) ?_
    refine AllReadyH.cons (o:={dst:=none,op:=Op.store 24 (Operand.tmp 5) (Operand.tmp 62),type:=0,pos:= "svd.go:48",after:=#[{on:=1,ground:=Ground.data},{on:=4,ground:=Ground.chain},{on:=0,ground:=Ground.phase},{on:=1,ground:=Ground.phase},{on:=2,ground:=Ground.textOnly Departure.lateStores},{on:=3,ground:=Ground.textOnly Departure.lateStoresUnsure},{on:=4,ground:=Ground.phase}],guard:=none}) rfl (fun K hK=>?_) AllReadyH.nil
    go_simp
    refine hK.out _ _ ?_ (fun Y=>?_)
    ·exact uH H2
    clear hK K
    refine wpAnyH_take (i:=6) (oi:={dst:=some 6,op:=Op.assign (Operand.tmp 64),type:=22,pos:= "svd.go:48",after:=#[{on:=3,ground:=Ground.data},{on:=5,ground:=Ground.chain},{on:=0,ground:=Ground.phase},{on:=1,ground:=Ground.phase},{on:=2,ground:=Ground.phase},{on:=3,ground:=Ground.phase},{on:=4,ground:=Ground.phase},{on:=5,ground:=Ground.phase}],guard:=none}) (v:=.slice (some ⟨gs,0,none⟩) c c) rfl (by kernel_rfl) (by kernel_rfl) (by kernel_rfl) (fun _ _ _ h=>h) (Or.inl ⟨by rfl,?_⟩) (by assumption) ?_
    ·(intro w O;(try dsimp only at O);go_simp)
    simp only[Act.put,List.setIfInBounds_toArray,List.set_cons_zero,List.set_cons_succ]
    refine wpAnyH_take (i:=7) (oi:={dst:=some 7,op:=Op.assign (Operand.const (Value.int IntKind.i64 0)),type:=27,pos:= "svd.go:48",after:=#[{on:=6,ground:=Ground.chain},{on:=0,ground:=Ground.phase},{on:=1,ground:=Ground.phase},{on:=2,ground:=Ground.phase},{on:=3,ground:=Ground.phase},{on:=4,ground:=Ground.phase},{on:=5,ground:=Ground.phase},{on:=6,ground:=Ground.phase}],guard:=none}) (v:=.int .i64 0) rfl (by kernel_rfl) (by kernel_rfl) (by kernel_rfl) (fun _ _ _ h=>h) (Or.inl ⟨by rfl,?_⟩) (by assumption) ?_
    ·(intro w O;(try dsimp only at O);go_simp)
    simp only[Act.put,List.setIfInBounds_toArray,List.set_cons_zero,List.set_cons_succ]
    refine wpAnyH_done (by kernel_rfl) ?_ _
    skip
    go_wp2_with fail
    exact bodyPost_ret (v:=.tuple #[.agg #[.int .i64 r,.int .i64 c,.slice (some ⟨gw,0,none⟩) N N],.agg #[.int .i64 c,.int .i64 c,.slice J M L],.slice (some ⟨gs,0,none⟩) c c,.int .i64 0]) (by simp[results,Tryz.results64,go_sem,a0,a1,a2,b0,b1,b2]) rfl ⟨.inr (.inr ⟨by first|rfl|exact hst,by rw[uH FF,hf,hv];rfl,_,_,gs,rfl,⟨_,_,by rw[l9],uH NW,(uH u).2.2.2 _ _ _ (uH X).mw.1⟩,⟨_,_,by rw[am],uH NV,(uH u).2.2.2 _ _ _ (uH X).mv.1⟩,uH GS,((uH RS).three (by have:=uH a6;omega) _ _ _).three (by have:=uH a6;omega) _ _ _⟩),(uH u).2.2.1⟩
def JR(B:Nat)(w':World)(r c:Int)(I:List Int)(e:Ending):Prop:=
 (sc r c I≠0∧e=.returned (.tuple #[.agg #[.int .i64 0,.int .i64 0,.slice none 0 0],.agg #[.int .i64 0,.int .i64 0,.slice none 0 0],.slice none 0 0,.int .i64 (sc r c I)]))∨
 (sc r c I=0∧DI B w' r.toNat c.toNat (dp I) e)
theorem nx{w wr:World}(z:Below w.heap.size w wr)(D:aL wr (w.heap.size+1) (.int .i64 0) (.int .i64 0) (.slice none 0 0))(K:aL wr (w.heap.size+1+1) (.int .i64 0) (.int .i64 0) (.slice none 0 0))(d h u G H J:Value)(F:World)
  (hF:F=((((((wr.setCell ⟨w.heap.size+1,0,none⟩ d).setCell ⟨w.heap.size+1,1,none⟩ h).setCell ⟨w.heap.size+1,2,none⟩ u).setCell ⟨w.heap.size+1+1,0,none⟩ G).setCell ⟨w.heap.size+1+1,1,none⟩ H).setCell ⟨w.heap.size+1+1,2,none⟩ J)):
  aL F (w.heap.size+1) d h u∧aL F (w.heap.size+1+1) G H J∧Below w.heap.size w F∧(∀A c I,ap wr A c I→ap F A c I)∧∀g S,w.heap.size+1+1<g→bW wr g S→bW F g S:=by
 subst hF
 have x:=D.put d h u
 have y:=K.three (g:=w.heap.size+1) (by omega) d h u
 exact⟨x.three (by omega) _ _ _,y.put _ _ _,aN (b:=w.heap.size+1+1) (aN (b:=w.heap.size+1) z (by omega) _ _ _) (by omega) _ _ _,fun A c I q=>(ap.putM q D _ _ _).putM y _ _ _,fun g S L q=>(q.three (by omega) _ _ _).three (by omega) _ _ _⟩
theorem DK(r c er:Int)(n d:Nat)(z:Option Addr)(w:World)(U:(er != 0)=true)
  (C:∀D,Below w.heap.size w D→Calls Tryz.prog 63 #[.agg #[.int .i64 r,.int .i64 c,.slice z n d]] D fun e K=>e=.returned (.int .i64 er)∧Below D.heap.size D K):
  Calls Tryz.prog 23 #[.agg #[.int .i64 r,.int .i64 c,.slice z n d]] w fun e D=>e=.returned (.tuple #[.agg #[.int .i64 0,.int .i64 0,.slice none 0 0],.agg #[.int .i64 0,.int .i64 0,.slice none 0 0],.slice none 0 0,.int .i64 er])∧Below w.heap.size w D:=by
 have X:=oP w (.int .i64 r) (.int .i64 c) (.slice z n d) (.int .i64 0) (.int .i64 0) (.slice none 0 0) (.int .i64 0) (.int .i64 0) (.slice none 0 0) (((w.alloc (.cells #[.int .i64 r,.int .i64 c,.slice z n d] 24)).alloc (.cells #[.int .i64 0,.int .i64 0,.slice none 0 0] 24)).alloc (.cells #[.int .i64 0,.int .i64 0,.slice none 0 0] 24)) (by have:=Below.refl (((w.alloc (.cells #[.int .i64 r,.int .i64 c,.slice z n d] 24)).alloc (.cells #[.int .i64 0,.int .i64 0,.slice none 0 0] 24)).alloc (.cells #[.int .i64 0,.int .i64 0,.slice none 0 0] 24)).heap.size (((w.alloc (.cells #[.int .i64 r,.int .i64 c,.slice z n d] 24)).alloc (.cells #[.int .i64 0,.int .i64 0,.slice none 0 0] 24)).alloc (.cells #[.int .i64 0,.int .i64 0,.slice none 0 0] 24));simpa only[aq]using this)
 have L:(((w.alloc (.cells #[.int .i64 r,.int .i64 c,.slice z n d] 24)).alloc (.cells #[.int .i64 0,.int .i64 0,.slice none 0 0] 24)).alloc (.cells #[.int .i64 0,.int .i64 0,.slice none 0 0] 24)).heap.size=w.heap.size+1+1+1:=by simp only[aq]
 obtain⟨H,I,O,Q⟩:=X
 have N:=ac (C _ H)
 have Y:=I.c0;have Z:=I.c1;have y2:=I.c2
 have G:=ac H;have F:=ac (And.intro I (And.intro O Q));have S3:=ac L
 clear H I O Q L C
 go_enter Tryz.func23,Tryz.ntmps23
 go_wp2_with fail
 clear Y Z y2
 refine Calls.mono (uH N) ?_
 rintro e w3 ⟨rfl,J⟩
 replace G:=ac ((uH G).trans (J.mono (uH G).size))
 replace F:=ac (And.intro ((uH F).1.all J) (And.intro ((uH F).2.1.all J) ((uH F).2.2.all J)))
 clear J N S3
 have u:=uH F
 have s0:=u.2.1.c0;have s1:=u.2.1.c1;have s2:=u.2.1.c2;have f0:=u.2.1.free 0;have f1:=u.2.1.free 1;have f2:=u.2.1.free 2
 have A:=u.2.2.three (g:=w.heap.size+1) (by omega) (.int .i64 0) (.int .i64 0) (.slice none 0 0)
 have t0:=A.c0;have t1:=A.c1;have t2:=A.c2;have g0:=A.free 0;have g1:=A.free 1;have g2:=A.free 2
 have h:=ac (nx (uH G) u.2.1 u.2.2 (.int .i64 0) (.int .i64 0) (.slice none 0 0) (.int .i64 0) (.int .i64 0) (.slice none 0 0) _ rfl)
 have a0:=(uH h).1.c0;have a1:=(uH h).1.c1;have a2:=(uH h).1.c2;have H:=(uH h).2.1.c0;have b1:=(uH h).2.1.c1;have b2:=(uH h).2.1.c2
 clear A u F G
 go_wp2_with fail
 exact bodyPost_ret (v:=.tuple #[.agg #[.int .i64 0,.int .i64 0,.slice none 0 0],.agg #[.int .i64 0,.int .i64 0,.slice none 0 0],.slice none 0 0,.int .i64 er]) (by simp[results,Tryz.results23,go_sem,a0,a1,a2,H,b1,b2]) rfl ⟨rfl,(uH h).2.2.1⟩
theorem xR(r c n A:Nat)(st fn:Bool)(W V:List Nat)(J:Option Addr)(w:World)
  (C:∀F,Below w.heap.size w F→Calls Tryz.prog 63 #[.agg #[.int .i64 r,.int .i64 c,.slice J n A]] F fun e H=>e=.returned (.int .i64 0)∧Below F.heap.size F H)
  (U:∀F,Below w.heap.size w F→Calls Tryz.prog 64 #[.agg #[.int .i64 r,.int .i64 c,.slice J n A],.int .i64 60] F fun e H=>rq F.heap.size H r c st fn W V e∧Below F.heap.size F H):
  Calls Tryz.prog 23 #[.agg #[.int .i64 r,.int .i64 c,.slice J n A]] w fun e F=>rq w.heap.size F r c st fn W V e∧Below w.heap.size w F:=by
 have KU:=ac U
 clear U
 have b3:=oP w (.int .i64 r) (.int .i64 c) (.slice J n A) (.int .i64 0) (.int .i64 0) (.slice none 0 0) (.int .i64 0) (.int .i64 0) (.slice none 0 0) (((w.alloc (.cells #[.int .i64 r,.int .i64 c,.slice J n A] 24)).alloc (.cells #[.int .i64 0,.int .i64 0,.slice none 0 0] 24)).alloc (.cells #[.int .i64 0,.int .i64 0,.slice none 0 0] 24)) (by have:=Below.refl (((w.alloc (.cells #[.int .i64 r,.int .i64 c,.slice J n A] 24)).alloc (.cells #[.int .i64 0,.int .i64 0,.slice none 0 0] 24)).alloc (.cells #[.int .i64 0,.int .i64 0,.slice none 0 0] 24)).heap.size (((w.alloc (.cells #[.int .i64 r,.int .i64 c,.slice J n A] 24)).alloc (.cells #[.int .i64 0,.int .i64 0,.slice none 0 0] 24)).alloc (.cells #[.int .i64 0,.int .i64 0,.slice none 0 0] 24));simpa only[aq]using this)
 have s3:(((w.alloc (.cells #[.int .i64 r,.int .i64 c,.slice J n A] 24)).alloc (.cells #[.int .i64 0,.int .i64 0,.slice none 0 0] 24)).alloc (.cells #[.int .i64 0,.int .i64 0,.slice none 0 0] 24)).heap.size=w.heap.size+1+1+1:=by simp only[aq]
 obtain⟨I,Z,x1,x2⟩:=b3
 have K1:=ac (C _ I)
 have y0:=Z.c0;have y1:=Z.c1;have y2:=Z.c2
 have D:=ac I;have z:=ac (And.intro Z (And.intro x1 x2));have S3:=ac s3
 clear I Z x1 x2 s3 C
 go_enter Tryz.func23,Tryz.ntmps23
 go_wp2_with fail
 clear y0 y1 y2
 refine Calls.mono (uH K1) ?_
 rintro e w3 ⟨rfl,G⟩
 replace D:=ac ((uH D).trans (G.mono (uH D).size))
 replace z:=ac (And.intro ((uH z).1.all G) (And.intro ((uH z).2.1.all G) ((uH z).2.2.all G)))
 clear G K1 S3
 have y0:=(uH z).1.c0;have y1:=(uH z).1.c1;have y2:=(uH z).1.c2
 go_wp2_with fail
 clear y0 y1 y2
 refine(uH KU _ (uH D)).mono ?_
 have K:=ac (uH D).size
 have aa:=ac (uH z).2.2.lt
 rintro e w4 ⟨ha,G⟩
 replace D:=ac ((uH D).trans (G.mono (uH D).size))
 replace z:=ac (And.intro ((uH z).1.all G) (And.intro ((uH z).2.1.all G) ((uH z).2.2.all G)))
 clear G KU
 rcases ha with⟨h1,rfl⟩|⟨h1,h2,rfl⟩|⟨h1,h2,v1,v2,g,rfl,⟨o1,c1,rfl,n1,q1⟩,⟨o2,c2,rfl,n2,q2⟩,hg,hr⟩
 ·have h:=uH z
  have s0:=h.2.1.c0;have s1:=h.2.1.c1;have s2:=h.2.1.c2;have f0:=h.2.1.free 0;have f1:=h.2.1.free 1;have f2:=h.2.1.free 2
  have u:=h.2.2.three (g:=w.heap.size+1) (by omega) (.int .i64 0) (.int .i64 0) (.slice none 0 0)
  have t0:=u.c0;have t1:=u.c1;have t2:=u.c2;have g0:=u.free 0;have g1:=u.free 1;have g2:=u.free 2
  have d:=ac (nx (uH D) h.2.1 h.2.2 (.int .i64 0) (.int .i64 0) (.slice none 0 0) (.int .i64 0) (.int .i64 0) (.slice none 0 0) _ rfl)
  have L:=(uH d).1.c0;have N:=(uH d).1.c1;have O:=(uH d).1.c2;have I:=(uH d).2.1.c0;have X:=(uH d).2.1.c1;have Y:=(uH d).2.1.c2
  clear u h z D
  go_wp2_with fail
  exact bodyPost_ret (v:=.tuple #[.agg #[.int .i64 0,.int .i64 0,.slice none 0 0],.agg #[.int .i64 0,.int .i64 0,.slice none 0 0],.slice none 0 0,.int .i64 6]) (by simp[results,Tryz.results23,go_sem,L,N,O,I,X,Y]) rfl ⟨.inl ⟨h1,rfl⟩,(uH d).2.2.1⟩
 ·have h:=uH z
  have s0:=h.2.1.c0;have s1:=h.2.1.c1;have s2:=h.2.1.c2;have f0:=h.2.1.free 0;have f1:=h.2.1.free 1;have f2:=h.2.1.free 2
  have u:=h.2.2.three (g:=w.heap.size+1) (by omega) (.int .i64 0) (.int .i64 0) (.slice none 0 0)
  have t0:=u.c0;have t1:=u.c1;have t2:=u.c2;have g0:=u.free 0;have g1:=u.free 1;have g2:=u.free 2
  have d:=ac (nx (uH D) h.2.1 h.2.2 (.int .i64 0) (.int .i64 0) (.slice none 0 0) (.int .i64 0) (.int .i64 0) (.slice none 0 0) _ rfl)
  have L:=(uH d).1.c0;have N:=(uH d).1.c1;have O:=(uH d).1.c2;have I:=(uH d).2.1.c0;have X:=(uH d).2.1.c1;have Y:=(uH d).2.1.c2
  clear u h z D
  go_wp2_with fail
  exact bodyPost_ret (v:=.tuple #[.agg #[.int .i64 0,.int .i64 0,.slice none 0 0],.agg #[.int .i64 0,.int .i64 0,.slice none 0 0],.slice none 0 0,.int .i64 2]) (by simp[results,Tryz.results23,go_sem,L,N,O,I,X,Y]) rfl ⟨.inr (.inl ⟨h1,h2,rfl⟩),(uH d).2.2.1⟩
 ·have Q:=ac (And.intro q1 (And.intro q2 hr))
  clear q1 q2 hr
  have h:=uH z
  have s0:=h.2.1.c0;have s1:=h.2.1.c1;have s2:=h.2.1.c2;have f0:=h.2.1.free 0;have f1:=h.2.1.free 1;have f2:=h.2.1.free 2
  have u:=h.2.2.three (g:=w.heap.size+1) (by omega) (.int .i64 (r:Nat)) (.int .i64 (c:Nat)) (.slice o1 W.length c1)
  have t0:=u.c0;have t1:=u.c1;have t2:=u.c2;have g0:=u.free 0;have g1:=u.free 1;have g2:=u.free 2
  have d:=ac (nx (uH D) h.2.1 h.2.2 (.int .i64 (r:Nat)) (.int .i64 (c:Nat)) (.slice o1 W.length c1) (.int .i64 (c:Nat)) (.int .i64 (c:Nat)) (.slice o2 V.length c2) _ rfl)
  have L:=(uH d).1.c0;have N:=(uH d).1.c1;have O:=(uH d).1.c2;have I:=(uH d).2.1.c0;have X:=(uH d).2.1.c1;have Y:=(uH d).2.1.c2
  clear u h z D
  go_wp2_with fail
  exact bodyPost_ret (v:=.tuple #[.agg #[.int .i64 r,.int .i64 c,.slice o1 W.length c1],.agg #[.int .i64 c,.int .i64 c,.slice o2 V.length c2],.slice (some ⟨g,0,none⟩) c c,.int .i64 0]) (by simp[results,Tryz.results23,go_sem,L,N,O,I,X,Y]) rfl ⟨.inr (.inr ⟨h1,h2,_,_,g,rfl,⟨o1,c1,rfl,n1.least (uH K),(uH d).2.2.2.1 _ _ _ (uH Q).1⟩,⟨o2,c2,rfl,n2.least (uH K),(uH d).2.2.2.1 _ _ _ (uH Q).2.1⟩,Nat.le_trans (uH K) hg,(uH d).2.2.2.2 g _ (by have:=uH aa;omega) (uH Q).2.2⟩),(uH d).2.2.1⟩
theorem pP(r c:Int)(A:Option Addr)(d:Nat)(I:List Int)(w:World)(F:ap w A d I)(G:I.length≤35184372088830)(H:ch w):
  Calls Tryz.prog 23 #[.agg #[.int .i64 r,.int .i64 c,.slice A I.length d]] w fun e u=>JR w.heap.size u r c I e∧Below w.heap.size w u:=by
 have C:=fun u (z:Below w.heap.size w u)=>oR r c A d I u (F.below z) G
 by_cases h:sc r c I=0
 ·obtain⟨p,q,rfl,rfl,J,L,_⟩:=Mx.asked F h
  have D:(dp I).length=I.length:=iB I
  rw[h]at C
  refine(xR p q I.length d (iF p q (dp I)).still (pO p q (dp I)) (cN p q (dp I)) (dR p q (dp I)) A w C (fun u z=>?_)).mono ?_
  ·exact rr p q I.length (q*q) d A (dp I) u (J.below z) D rfl (H.all z)
  ·rintro e u ⟨K,z⟩
   exact⟨.inr ⟨h,K⟩,z⟩
 ·refine(DK r c (sc r c I) I.length d A w (by simpa using h) C).mono ?_
  rintro e u ⟨rfl,z⟩
  exact⟨.inl ⟨h,rfl⟩,z⟩
def ru:List Nat:=[4613937818241073152,0,0,4616189618054758400]
theorem Hr:uq ru=2:=by decide+kernel
theorem Ls:fw ru (-2)= [4604930618986332160,0,0,4607182418800017408]:=by decide+kernel
theorem ny{I:List Int}{m S R o:Nat}{k:Int}(d:ja I I.length=m)(h:¬(m=0∨aj m=false))(u:eX m=k)(z:mh (tL k I) (tL k I) I.length=S)(A:sV S=R)(D:xV R k=o):nr I=o:=by
 unfold nr
 rw[d,if_neg h,u,z,A,D]
theorem DL:sV 4612248968380809216=4609434218613702656:=by
 have:=tJ 4609434218613702656 (by decide+kernel) (by decide+kernel)
 rwa[show mV 4609434218613702656 4609434218613702656=4612248968380809216 from by decide+kernel,show fR 4609434218613702656=4609434218613702656 from by decide+kernel]at this
theorem DM:sV 4607182418800017408=4607182418800017408:=by
 have:=tJ 4607182418800017408 (by decide+kernel) (by decide+kernel)
 rwa[show mV 4607182418800017408 4607182418800017408=4607182418800017408 from by decide+kernel,show fR 4607182418800017408=4607182418800017408 from by decide+kernel]at this
theorem Hs:iD 2 2 [4604930618986332160,0,0,4607182418800017408] 0=4604930618986332160:=
 ny (m:=4604930618986332160) (k:=-1) (S:=4612248968380809216) (R:=4609434218613702656) (by decide+kernel) (by decide+kernel) (by decide+kernel) (by decide+kernel) DL (by decide+kernel)
theorem Ht:iD 2 2 [4604930618986332160,0,0,4607182418800017408] 1=4607182418800017408:=
 ny (m:=4607182418800017408) (k:=0) (S:=4607182418800017408) (R:=4607182418800017408) (by decide+kernel) (by decide+kernel) (by decide+kernel) (by decide+kernel) DM (by decide+kernel)
theorem Lt(low:Nat):ug 2 2 low [4604930618986332160,0,0,4607182418800017408] 0 1=true:=by
 unfold ug
 rw[Hs,Ht,show pK 2 2 [4604930618986332160,0,0,4607182418800017408] 0 1=0 from by decide+kernel,show ku (xV (mV 4604930618986332160 4607182418800017408) (-44)) (fR 0)=false from by decide+kernel]
 cases ku low 4604930618986332160<;>cases ku low 4607182418800017408<;>rfl
theorem Hu(low:Nat):gy 2 2 low ⟨[4604930618986332160,0,0,4607182418800017408],iH 2,false⟩ 1=⟨[4604930618986332160,0,0,4607182418800017408],iH 2,true⟩:=by
 show qq 2 2 low 0 1 ⟨[4604930618986332160,0,0,4607182418800017408],iH 2,true⟩=_
 exact rn (Lt low)
theorem xS:iF 2 2 ru=⟨[4604930618986332160,0,0,4607182418800017408],iH 2,true⟩:=by
 unfold iF GG
 rw[Hr,Ls]
 generalize xV (nr (bH [4604930618986332160,0,0,4607182418800017408])) (-44)=low
 have:=oZ (r:=2) (c:=2) (low:=low) (s:=⟨[4604930618986332160,0,0,4607182418800017408],iH 2,false⟩) (n:=1) (by rw[Hu]) 59
 rw[show 1+59=60 from rfl,Hu]at this
 exact this
theorem Hv:ge 2 2 ru= [1,0]:=by
 unfold ge
 rw[xS]
 show ev [iD 2 2 [4604930618986332160,0,0,4607182418800017408] 0,iD 2 2 [4604930618986332160,0,0,4607182418800017408] 1] 2=_
 rw[Hs,Ht]
 decide+kernel
theorem DN:cN 2 2 ru= [0,4613937818241073152,4616189618054758400,0]:=by
 unfold cN
 rw[Hv,xS,Hr]
 decide+kernel
theorem Hw:dR 2 2 ru= [0,4607182418800017408,4607182418800017408,0]:=by
 unfold dR
 rw[Hv,xS]
 decide+kernel
theorem Lu:pO 2 2 ru=true:=by
 unfold pO
 rw[DN,Hw]
 decide+kernel
theorem Lv:iD 2 2 [0,4613937818241073152,4616189618054758400,0] 0=4616189618054758400:=
 ny (m:=4616189618054758400) (k:=2) (S:=4607182418800017408) (R:=4607182418800017408) (by decide+kernel) (by decide+kernel) (by decide+kernel) (by decide+kernel) DM (by decide+kernel)
theorem Lw:iD 2 2 [0,4613937818241073152,4616189618054758400,0] 1=4613937818241073152:=
 ny (m:=4613937818241073152) (k:=1) (S:=4612248968380809216) (R:=4609434218613702656) (by decide+kernel) (by decide+kernel) (by decide+kernel) (by decide+kernel) DL (by decide+kernel)
theorem Lx:mU 2 2 (cN 2 2 ru)= [4616189618054758400,4613937818241073152]:=by
 rw[DN]
 show [iD 2 2 [0,4613937818241073152,4616189618054758400,0] 0,iD 2 2 [0,4613937818241073152,4616189618054758400,0] 1]=_
 rw[Lv,Lw]
theorem wE(F N:Nat)(w:World)
  (C:∀d O,Below w.heap.size w d→ap d O 4 (bH ru)→Calls Tryz.prog 23 #[.agg #[.int .i64 2,.int .i64 2,.slice O 4 4]] d fun e z=>∃A D G H g,e=.returned (.tuple #[.agg #[.int .i64 2,.int .i64 2,.slice A F D],.agg #[.int .i64 2,.int .i64 2,.slice G N H],.slice (some ⟨g,0,none⟩) 2 2,.int .i64 0])∧bW z g [4616189618054758400,4613937818241073152]∧Below d.heap.size d z):
  Calls Tryz.prog 22 #[] w fun e d=>e=.returned (.bool true)∧Below w.heap.size w d:=by
 have I:=ad w (.cells #[.int .u64 ((4613937818241073152:Nat):Int),.int .u64 ((0:Nat):Int),.int .u64 ((0:Nat):Int),.int .u64 ((4616189618054758400:Nat):Int)] 69)
 have Q:bW (w.alloc (.cells #[.int .u64 ((4613937818241073152:Nat):Int),.int .u64 ((0:Nat):Int),.int .u64 ((0:Nat):Int),.int .u64 ((4616189618054758400:Nat):Int)] 69)) w.heap.size ru:=heap_alloc_new w _
 have U:ap (w.alloc (.cells #[.int .u64 ((4613937818241073152:Nat):Int),.int .u64 ((0:Nat):Int),.int .u64 ((0:Nat):Int),.int .u64 ((4616189618054758400:Nat):Int)] 69)) (some ⟨w.heap.size,0,none⟩) 4 (bH ru):=Q.bits (by decide)
 have K:=ac (C _ _ I U)
 have h:=ac I
 clear C I Q U
 go_enter Tryz.func22,Tryz.ntmps22
 go_wp2_with fail
 refine Calls.mono (uH K) ?_
 rintro e L ⟨A,D,G,H,g,rfl,Y,Z⟩
 replace h:=ac ((uH h).trans (Z.mono (uH h).size))
 have J:=ad L (.cells #[.int .i64 2,.int .i64 2,.slice A F D] 24)
 have X:=ad (L.alloc (.cells #[.int .i64 2,.int .i64 2,.slice A F D] 24)) (.cells #[.int .i64 2,.int .i64 2,.slice G N H] 24)
 have u:=J.trans (X.mono J.size)
 have c0:=aG (show L.cell? ⟨g,0,none⟩=some (.int .u64 4616189618054758400)from Y.cell 0 (by decide)) u
 replace h:=ac ((uH h).trans (u.mono (uH h).size))
 clear Z Y J X u K
 go_wp2_with fail
 exact bodyPost_ret (v:=.bool true) (by simp[results,Tryz.results22,go_sem]) rfl ⟨rfl,uH h⟩
theorem ur(w:World)(F:ch w):
  Calls Tryz.prog 22 #[] w fun e z=>e=.returned (.bool true)∧Below w.heap.size w z:=by
 refine wE 4 4 w (fun z A G D=>?_)
 have:=rr 2 2 4 4 4 A ru z ⟨D,rfl,by decide,by decide⟩ rfl rfl (F.all G)
 have C:=fun u (d:Below z.heap.size z u)=>oR 2 2 A 4 (bH ru) u (D.below d) (by decide)
 rw[show sc 2 2 (bH ru)=0 from by decide+kernel]at C
 refine(xR 2 2 4 4 (iF 2 2 ru).still (pO 2 2 ru) (cN 2 2 ru) (dR 2 2 ru) A z C (fun u d=>rr 2 2 4 4 4 A ru u ⟨D.below d,rfl,by decide,by decide⟩ rfl rfl ((F.all G).all d))).mono ?_
 rintro e u ⟨h|h|⟨_,_,N,O,g,rfl,⟨I,J,rfl,_,_⟩,⟨K,L,rfl,_,_⟩,_,H⟩,d⟩
 ·rw[xS]at h;cases h.1
 ·rw[Lu]at h;cases h.2.1
 ·rw[Lx]at H
  rw[DN,Hw]
  exact⟨I,J,K,L,g,rfl,H,d⟩
theorem DO{w:World}{u:Option Addr}{d r c:Nat}{S:List Nat}(h:Mx w u d r c S)(z:gq S=true):sc (r:Int) (c:Int) (bH S)=0:=by
 unfold sc
 rw[aH,xL h]
 have:iX (bH S) S.length=true:=z
 rw[this]
 rfl
theorem DP(D:List Nat):ja (bH D) D.length=bB 0 D:=by
 have:=xH (bH D)
 rwa[aH,k7]at this
end Go.Proofs.YtcbcmlaogehimaaGreatDoor
namespace Go.Proofs.YtcbcmlaogehimaaGreatDoor
open Go.RowKit
theorem zI{S:List Nat}(h:∀x∈S,aj x=true):gq S=true:=by
 rw[oS]
 intro k d
 rw[List.getD_eq_getElem?_getD,List.getElem?_eq_getElem d]
 exact h _ (List.getElem_mem d)
attribute [local go_sem ↓] Go.wp_at_zero Go.wp_at_succ
theorem bc.ex17{w:World}{v:Value}{lo z:Int}(h:bc w v lo z):∃(n:Bool) (a:Option Addr) (l c:Nat) (E:Int),v=.agg #[.bool n,.slice a l c,.int .i64 E]∧bc w (.agg #[.bool n,.slice a l c,.int .i64 E]) lo z:=by
 obtain⟨n,a,c,L,rfl,d⟩:=h
 exact⟨n,a,L.length,c,oE z lo,rfl,n,a,c,L,rfl,d⟩
end Go.Proofs.YtcbcmlaogehimaaGreatDoor
