/- Part 32 of the texts. -/
import Derived.Test.YtcbcmlaogehimaaGreatDoorPartp31
set_option maxHeartbeats 16000000
set_option maxRecDepth 20000
namespace Go.Proofs.YtcbcmlaogehimaaGreatDoor
open Go.RowKit
attribute [local go_sem ↓] Go.wp_at_zero Go.wp_at_succ
theorem ER{S:List Nat}(h:∀x∈S,x<18446744073709551616)(k:Int):∀x∈d7 S k,x<18446744073709551616:=by
 intro x d
 unfold d7 at d
 obtain⟨p,_,rfl⟩:=List.mem_map.1 d
 refine pg _ _ ?_
 rw[List.getD_eq_getElem?_getD]
 cases e:S[p]? with
 |none=>decide
 |some v=>exact h v (List.mem_of_getElem? e)
theorem It(r c:Nat)(S:List Nat):∀x∈nK r c S,x<18446744073709551616:=by
 intro x d
 unfold nK at d
 obtain⟨p,_,rfl⟩:=List.mem_map.1 d
 exact xC _ _ _ _
def tC(A:List Nat):Int:=eX (jl (bH A) A.length)
def gY(r c:Nat)(A:List Nat):Sd:=Fz r c (d7 A (-tC A)) 60
def ew(r c:Nat)(A:List Nat):List Nat:=eL (nK r c (gY r c A).W) c
def bV(r c:Nat)(A:List Nat):List Nat:=d7 (uZ r c (gY r c A).W (ew r c A)) (tC A)
def dy(r c:Nat)(A:List Nat):List Nat:=uZ c c (gY r c A).V (ew r c A)
def qv(r c:Nat)(A:List Nat):Bool:=gC (bV r c A)&&gC (dy r c A)
def sD(B:Nat)(w':World)(r c:Nat)(still fin:Bool)(W V:List Nat)(e:Ending):Prop:=
 (still=false∧e=.returned (.tuple #[.agg #[.int .i64 0,.int .i64 0,.slice none 0 0],.agg #[.int .i64 0,.int .i64 0,.slice none 0 0],.slice none 0 0,.int .i64 6]))∨
 (still=true∧fin=false∧e=.returned (.tuple #[.agg #[.int .i64 0,.int .i64 0,.slice none 0 0],.agg #[.int .i64 0,.int .i64 0,.slice none 0 0],.slice none 0 0,.int .i64 2]))∨
 (still=true∧fin=true∧∃v1 v2 g,e=.returned (.tuple #[v1,v2,.slice (some ⟨g,0,none⟩) c c,.int .i64 0])∧dj B w' r c W v1∧dj B w' c c V v2∧B≤g∧cf w' g (nK r c W))
def ES(B:Nat)(w':World)(r c:Nat)(A:List Nat)(e:Ending):Prop:=sD B w' r c (gY r c A).still (qv r c A) (bV r c A) (dy r c A) e
theorem ET(I:List Nat)(n:Nat){j:Nat}(d:j<n):kc (bH (eL I n)) j=(((eL I n).getD j 0:Nat):Int)∧(eL I n).getD j 0<n:=by
 have h:=fu I n
 refine⟨?_,?_⟩
 ·unfold kc bH
  rw[List.getElem?_map,List.getElem?_eq_getElem (by omega),List.getD_eq_getElem?_getD,List.getElem?_eq_getElem (by omega)]
  rfl
 ·refine mb I n _ ?_
  rw[List.getD_eq_getElem?_getD,List.getElem?_eq_getElem (by omega)]
  exact List.getElem_mem _
theorem pL(r c d z:Nat)(A:Option Addr)(S I:List Nat)(w:World)(h:Mx w A d r c S)(J:bN w z (eL I c)):
  Calls Tryz.prog 124 #[.agg #[.int .i64 r,.int .i64 c,.slice A S.length d],.slice (some ⟨z,0,none⟩) c c] w fun e D=>∃v,e=.returned (.tuple #[v,.int .i64 0])∧dj w.heap.size D r c (uZ r c S (eL I c)) v∧Below w.heap.size w D:=by
 have L:=h.2.2.2
 have u:=fu I c
 have G:=J.ints (fun x K=>by have:=mb I c x K;omega)
 rw[u]at G
 have q:=Ba r c d c A (some ⟨z,0,none⟩) S (bH (eL I c)) w h G (by rw[aG,u];omega)
 rw[aG,u]at q
 refine q.mono ?_
 rintro e D ⟨F,Q⟩
 unfold yZ at F
 rw[aG,u,uT]at F
 rcases F with⟨⟨j,U,H⟩,_⟩|⟨_,Z,_⟩|⟨_,_,v,rfl,X⟩
 ·obtain⟨O,Y⟩:=ET I c U
  rw[O]at H
  exact absurd ⟨by omega,by omega⟩ H
 ·omega
 ·exact⟨v,rfl,X,Q⟩
structure iP (w wr:World) (g r c N M:Nat) (W V:List Nat) (wo vo:Option Addr) (wc vc:Nat):Prop where
 bel:Below w.heap.size w wr
 b4:aM wr (w.heap.size+1) (.int .i64 0) (.int .i64 0) (.slice none 0 0)
 b5:aM wr (w.heap.size+1+1) (.int .i64 0) (.int .i64 0) (.slice none 0 0)
 bw:aM wr g (.int .i64 r) (.int .i64 c) (.slice wo N wc)
 bv:aM wr (g+1) (.int .i64 c) (.int .i64 c) (.slice vo M vc)
 hg:w.heap.size+1+1<g
 mw:Mx wr wo wc r c W
 mv:Mx wr vo vc c c V
 hN:W.length=N
 hM:V.length=M
theorem iP.all{w wr u:World}{g r c N M:Nat}{W V:List Nat}{z A:Option Addr}{wc D:Nat}(h:iP w wr g r c N M W V z A wc D)(d:Below wr.heap.size wr u):iP w u g r c N M W V z A wc D:=
 ⟨h.bel.trans (d.mono h.bel.size),h.b4.all d,h.b5.all d,h.bw.all d,h.bv.all d,h.hg,h.mw.below d,h.mv.below d,h.hN,h.hM⟩
theorem iP.putW{w wr:World}{g r c N M:Nat}{W V:List Nat}{F A:Option Addr}{wc D:Nat}(h:iP w wr g r c N M W V F A wc D){z:List Nat}{d:Option Addr}{u:Nat}(G:Mx wr d u r c z)(H:z.length=N):
  iP w (((wr.setCell ⟨g,0,none⟩ (.int .i64 r)).setCell ⟨g,1,none⟩ (.int .i64 c)).setCell ⟨g,2,none⟩ (.slice d N u)) g r c N M z V d A u D:=by
 have I:=h.hg
 exact⟨aR (b:=g) h.bel (by omega) _ _ _,h.b4.three (by omega) _ _ _,h.b5.three (by omega) _ _ _,h.bw.put _ _ _,h.bv.three (by omega) _ _ _,I,G.putM h.bw _ _ _,h.mv.putM h.bw _ _ _,H,h.hM⟩
theorem iP.putV{w wr:World}{g r c N M:Nat}{W V:List Nat}{A D:Option Addr}{wc F:Nat}(h:iP w wr g r c N M W V A D wc F){z:List Nat}{d:Option Addr}{u:Nat}(G:Mx wr d u c c z)(H:z.length=M):
  iP w (((wr.setCell ⟨g+1,0,none⟩ (.int .i64 c)).setCell ⟨g+1,1,none⟩ (.int .i64 c)).setCell ⟨g+1,2,none⟩ (.slice d M u)) g r c N M W z A d wc u:=by
 have I:=h.hg
 exact⟨aR (b:=g+1) h.bel (by omega) _ _ _,h.b4.three (by omega) _ _ _,h.b5.three (by omega) _ _ _,h.bw.three (by omega) _ _ _,h.bv.put _ _ _,I,h.mw.putM h.bv _ _ _,G.putM h.bv _ _ _,h.hN,H⟩
theorem iP.out{w wr:World}{g r c N M:Nat}{W V:List Nat}{J K:Option Addr}{wc L:Nat}(h:iP w wr g r c N M W V J K wc L)(d u z D G H:Value)(F:World)
  (hF:F=((((((wr.setCell ⟨w.heap.size+1,0,none⟩ d).setCell ⟨w.heap.size+1,1,none⟩ u).setCell ⟨w.heap.size+1,2,none⟩ z).setCell ⟨w.heap.size+1+1,0,none⟩ D).setCell ⟨w.heap.size+1+1,1,none⟩ G).setCell ⟨w.heap.size+1+1,2,none⟩ H)):
  aM F (w.heap.size+1) d u z∧aM F (w.heap.size+1+1) D G H∧Below w.heap.size w F∧∀A c I,ak wr A c I→ak F A c I:=by
 subst hF
 have x:=h.b4.put d u z
 have y:=h.b5.three (g:=w.heap.size+1) (by omega) d u z
 exact⟨x.three (by omega) _ _ _,y.put _ _ _,aR (b:=w.heap.size+1+1) (aR (b:=w.heap.size+1) h.bel (by omega) _ _ _) (by omega) _ _ _,fun A c I q=>(ak.putM q h.b4 _ _ _).putM y _ _ _⟩
theorem sE(r c N M H:Nat)(ao:Option Addr)(A:List Nat)(w:World)(h:Mx w ao H r c A)(hN:A.length=N)(hM:c*c=M)(hT:cr w):
  Calls Tryz.prog 64 #[.agg #[.int .i64 r,.int .i64 c,.slice ao N H],.int .i64 60] w fun e w'=>ES w.heap.size w' r c A e∧Below w.heap.size w w':=by
 have b3:=pB w (.int .i64 r) (.int .i64 c) (.slice ao N H) (.int .i64 0) (.int .i64 0) (.slice none 0 0) (.int .i64 0) (.int .i64 0) (.slice none 0 0) (((w.alloc (.cells #[.int .i64 r,.int .i64 c,.slice ao N H] 24)).alloc (.cells #[.int .i64 0,.int .i64 0,.slice none 0 0] 24)).alloc (.cells #[.int .i64 0,.int .i64 0,.slice none 0 0] 24)) (by have:=Below.refl (((w.alloc (.cells #[.int .i64 r,.int .i64 c,.slice ao N H] 24)).alloc (.cells #[.int .i64 0,.int .i64 0,.slice none 0 0] 24)).alloc (.cells #[.int .i64 0,.int .i64 0,.slice none 0 0] 24)).heap.size (((w.alloc (.cells #[.int .i64 r,.int .i64 c,.slice ao N H] 24)).alloc (.cells #[.int .i64 0,.int .i64 0,.slice none 0 0] 24)).alloc (.cells #[.int .i64 0,.int .i64 0,.slice none 0 0] 24));simpa only[aq]using this)
 have s3:(((w.alloc (.cells #[.int .i64 r,.int .i64 c,.slice ao N H] 24)).alloc (.cells #[.int .i64 0,.int .i64 0,.slice none 0 0] 24)).alloc (.cells #[.int .i64 0,.int .i64 0,.slice none 0 0] 24)).heap.size=w.heap.size+1+1+1:=by simp only[aq]
 obtain⟨b0,x0,x1,x2⟩:=b3
 have ah:=h.2.2.1;have aa:=h.2.2.2
 have bz:=h.small
 have LA:=ac (show(bH A).length=N from(aG A).trans hN)
 have Z:=x0.c2
 have K1:=ac (lG ao H (bH A) _ (h.below b0).1 (by rw[aG];omega))
 rw[uH LA]at K1
 have RN:=ac (show r*c=N∧c*c=M from⟨h.2.1.symm.trans hN,hM⟩)
 have HK:=ac (show eX (jl (bH A) N)=tC A from by unfold tC;rw[hN])
 have I:=ac b0;have G:=ac (And.intro x0 (And.intro x1 x2));have S3:=ac s3;have HM:=ac h;have HT:=ac hT;have HN:=ac hN
 have hk:=lH (jl (bH A) N) (mP _ _)
 have aI:=mP (bH A) N
 rw[uH HK]at hk
 have DD:=ac (show gY r c A=Fz r c (d7 A (-tC A)) 60 from rfl)
 have PP:=ac (show ew r c A=eL (nK r c (gY r c A).W) c from rfl)
 have WW:=ac (show bV r c A=d7 (uZ r c (gY r c A).W (ew r c A)) (tC A)from rfl)
 have VV:=ac (show dy r c A=uZ c c (gY r c A).V (ew r c A)from rfl)
 have FF:=ac (show qv r c A=(gC (bV r c A)&&gC (dy r c A))from rfl)
 show Calls _ _ _ _ fun e w'=>sD w.heap.size w' r c (gY r c A).still (qv r c A) (bV r c A) (dy r c A) e∧Below w.heap.size w w'
 generalize qv r c A=F9 at*
 generalize dy r c A=V9 at*
 generalize bV r c A=W9 at*
 generalize ew r c A=Q at*
 generalize gY r c A=s at*
 clear b0 x0 x1 x2 s3 h hT hN
 generalize jl (bH A) N=bg at*
 generalize bG:tC A=k at*
 go_enter Tryz.func64,Tryz.ntmps64
 go_wp2_with fail
 clear Z
 refine Calls.mono (uH K1) ?_
 rintro e w3 ⟨rfl,D⟩
 replace I:=ac ((uH I).trans (D.mono (uH I).size))
 rw[uH S3]at D
 replace G:=ac (And.intro ((uH G).1.below D (by omega)) (And.intro ((uH G).2.1.below D (by omega)) ((uH G).2.2.below D (by omega))))
 have SZ:=ac (show w.heap.size+1+1+1≤w3.heap.size from by have:=D.size;have:=uH S3;omega)
 clear D K1
 go_wp2_with fail
 refine(uw bg w3 aI ((uH HT).all (uH I))).mono ?_
 rintro e w4 ⟨rfl,D⟩
 rw[uH HK]
 have bo:=fun(D:Below w3.heap.size w3 w4)=>(uH G)
 replace I:=ac ((uH I).trans (D.mono (uH I).size))
 replace G:=ac (And.intro ((uH G).1.all D) (And.intro ((uH G).2.1.all D) ((uH G).2.2.all D)))
 replace SZ:=ac (Nat.le_trans (uH SZ) D.size)
 clear D bo HK aI
 have nk:IntKind.i64.wrap (-k)= -k:=ef _ (by omega)
 have y0:=(uH G).1.c0;have y1:=(uH G).1.c1;have Z:=(uH G).1.c2
 have K2:=ac (nC r c H (-k) ao A w4 ((uH HM).below (uH I)) ((uH HT).all (uH I)))
 rw[uH HN]at K2
 go_wp2_with fail
 clear y0 y1 Z
 refine Calls.mono (uH K2) ?_
 rintro e w5 ⟨ga,rfl,bq,a9,D⟩
 replace I:=ac ((uH I).trans (D.mono (uH I).size))
 replace G:=ac (And.intro ((uH G).1.all D) (And.intro ((uH G).2.1.all D) ((uH G).2.2.all D)))
 replace SZ:=ac (Nat.le_trans (uH SZ) D.size)
 have lA:(d7 A (-k)).length=N:=(j6 _ _).trans (uH HN)
 have a3:=ER (uH HM).1.nat (-k)
 have ma:Mx w5 (some ⟨ga,0,none⟩) N r c (d7 A (-k)):=⟨by have:=a9.bits a3;rw[lA]at this;exact this,lA.trans (uH RN).1.symm,ah,aa⟩
 have K3:=ac (vf r c N M 60 N (some ⟨ga,0,none⟩) (d7 A (-k)) w5 ma lA (uH RN).2 (by omega) ((uH HT).all (uH I)))
 rw[←uH DD]at K3
 clear D K2 a9 ma lA a3 bq
 go_wp2_with fail
 refine Calls.mono (uH K3) ?_
 rintro e w6 ⟨⟨wo,wc,vo,vc,rfl,hW,hV,ba,bb⟩,D⟩
 replace I:=ac ((uH I).trans (D.mono (uH I).size))
 replace G:=ac (And.intro ((uH G).1.all D) (And.intro ((uH G).2.1.all D) ((uH G).2.2.all D)))
 replace SZ:=ac (Nat.le_trans (uH SZ) D.size)
 clear D K3 DD
 have b1:=ad w6 (.cells #[.int .i64 r,.int .i64 c,.slice wo N wc] 24)
 have z1:=aq w6 (.cells #[.int .i64 r,.int .i64 c,.slice wo N wc] 24)
 have x1:=aM.new w6 (.int .i64 r) (.int .i64 c) (.slice wo N wc)
 have b2:=ad (w6.alloc (.cells #[.int .i64 r,.int .i64 c,.slice wo N wc] 24)) (.cells #[.int .i64 c,.int .i64 c,.slice vo M vc] 24)
 have x2:=aM.new (w6.alloc (.cells #[.int .i64 r,.int .i64 c,.slice wo N wc] 24)) (.int .i64 c) (.int .i64 c) (.slice vo M vc)
 rw[z1]at x2
 have ae:=b1.trans (b2.mono b1.size)
 have z:=ac (show iP w _ w6.heap.size r c N M s.W s.V wo vo wc vc from⟨(uH I).trans (ae.mono (uH I).size),(uH G).2.1.all ae,(uH G).2.2.all ae,x1.all b2,x2,by have:=uH SZ;omega,hW.below ae,hV.below ae,ba,bb⟩)
 clear b1 b2 x1 x2 ae z1 hW hV ba bb I G SZ HM
 cases hst:s.still
 ·skip
  have d:=uH z
  have s0:=d.b4.c0;have s1:=d.b4.c1;have s2:=d.b4.c2;have f0:=d.b4.free 0;have f1:=d.b4.free 1;have f2:=d.b4.free 2
  have F:=d.b5.three (g:=w.heap.size+1) (by omega) (.int .i64 0) (.int .i64 0) (.slice none 0 0)
  have t0:=F.c0;have t1:=F.c1;have t2:=F.c2;have g0:=F.free 0;have g1:=F.free 1;have g2:=F.free 2
  have u:=ac (d.out (.int .i64 0) (.int .i64 0) (.slice none 0 0) (.int .i64 0) (.int .i64 0) (.slice none 0 0) _ rfl)
  have a0:=(uH u).1.c0;have a1:=(uH u).1.c1;have a2:=(uH u).1.c2;have b0:=(uH u).2.1.c0;have b1:=(uH u).2.1.c1;have b2:=(uH u).2.1.c2
  clear F
  clear d z
  go_wp2_with fail
  exact bodyPost_ret (v:=.tuple #[.agg #[.int .i64 0,.int .i64 0,.slice none 0 0],.agg #[.int .i64 0,.int .i64 0,.slice none 0 0],.slice none 0 0,.int .i64 6]) (by simp[results,Tryz.results64,go_sem,a0,a1,a2,b0,b1,b2]) rfl ⟨.inl ⟨by first|rfl|exact hst,rfl⟩,(uH u).2.2.1⟩
 ·have y0:=(uH z).bw.c0;have y1:=(uH z).bw.c1;have Z:=(uH z).bw.c2
  go_wp2_with fail
  clear y0 y1 Z
  generalize (w6.alloc (.cells #[.int .i64 r,.int .i64 c,.slice wo N wc] 24)).alloc (.cells #[.int .i64 c,.int .i64 c,.slice vo M vc] 24)=w7 at*
  generalize w6.heap.size=g at*
  have SQ:=ac (uH PP).symm
  have LQ:=ac (show Q.length=c from by rw[uH PP];exact fu _ _)
  have K:=ac (nB r c wc wo s.W w7 (uH z).mw ((uH HT).all (uH z).bel))
  rw[(uH z).hN]at K
  refine Calls.mono (uH K) ?_
  rintro e w8 ⟨gn,rfl,_,bd,D⟩
  replace z:=ac ((uH z).all D)
  have HR:=ac (bd.bits (It r c s.W))
  rw[pG]at HR
  clear D K bd
  have K:=ac (vj c (some ⟨gn,0,none⟩) (nK r c s.W) w8 (by rw[pG];exact aa) (uH HR))
  rw[pG,uH SQ]at K
  go_wp2_with fail
  refine Calls.mono (uH K) ?_
  rintro e w9 ⟨gp,rfl,bs,ax,D⟩
  have GP:=ac (show gp≠g from by have:=(uH z).bw.lt;omega)
  replace z:=ac ((uH z).all D)
  rw[←uH SQ]at ax
  have RI:=ac ax
  clear D K ax HR bs
  have y0:=(uH z).bw.c0;have y1:=(uH z).bw.c1;have Z:=(uH z).bw.c2
  go_wp2_with fail
  clear y0 y1 Z
  have K:=ac (pL r c wc gp wo s.W (nK r c s.W) _ (uH z).mw (uH RI))
  rw[(uH z).hN,uH SQ]at K
  refine Calls.mono (uH K) ?_
  rintro e w8 ⟨v8,rfl,az,D⟩
  obtain⟨an,ar,rfl,bp,q8⟩:=az
  have l8:(uZ r c s.W Q).length=N:=(jf _ _ _ _).trans ((congrArg (r* ·) (uH LQ)).trans (uH RN).1)
  rw[l8]
  have d:=(uH z).all D
  replace RI:=ac ((uH RI).all D)
  have s0:=d.bw.c0;have s1:=d.bw.c1;have s2:=d.bw.c2;have f0:=d.bw.free 0;have f1:=d.bw.free 1;have f2:=d.bw.free 2
  have X:=ac (d.putW (⟨q8,(jf _ _ _ _).trans (congrArg (r* ·) (uH LQ)),ah,aa⟩:Mx w8 an ar r c (uZ r c s.W Q)) l8)
  replace RI:=ac ((uH RI).three (g:=g) (uH GP) (.int .i64 (r:Nat)) (.int .i64 (c:Nat)) (.slice an N ar))
  clear d z D K q8 bp l8
  have y0:=(uH X).bv.c0;have y1:=(uH X).bv.c1;have Z:=(uH X).bv.c2
  go_wp2_with fail
  clear s0 s1 s2 f0 f1 f2 y0 y1 Z
  have z:=X
  clear X
  have K:=ac (pL c c vc gp vo s.V (nK r c s.W) _ (uH z).mv (uH RI))
  rw[(uH z).hM,uH SQ]at K
  refine Calls.mono (uH K) ?_
  rintro e w8 ⟨v8,rfl,az,D⟩
  obtain⟨J,L,rfl,a7,q8⟩:=az
  have l8:(uZ c c s.V Q).length=M:=(jf _ _ _ _).trans ((congrArg (c* ·) (uH LQ)).trans (uH RN).2)
  rw[l8]
  have NV:=ac (a7.least (uH z).bel.size)
  have d:=(uH z).all D
  replace RI:=ac ((uH RI).all D)
  have s0:=d.bv.c0;have s1:=d.bv.c1;have s2:=d.bv.c2;have f0:=d.bv.free 0;have f1:=d.bv.free 1;have f2:=d.bv.free 2
  have X:=ac (d.putV (⟨q8,(jf _ _ _ _).trans (congrArg (c* ·) (uH LQ)),aa,aa⟩:Mx w8 J L c c (uZ c c s.V Q)) l8)
  clear RI
  clear d z D K q8 a7 l8
  have y0:=(uH X).bw.c0;have y1:=(uH X).bw.c1;have Z:=(uH X).bw.c2
  go_wp2_with fail
  clear s0 s1 s2 f0 f1 f2 y0 y1 Z
  have z:=X
  clear X
  have K:=ac (nC r c ar k an (uZ r c s.W Q) _ (uH z).mw ((uH HT).all (uH z).bel))
  rw[(uH z).hN,←uH WW]at K
  refine Calls.mono (uH K) ?_
  rintro e w8 ⟨gw,rfl,be,bi,D⟩
  have NW:=ac (show uR w.heap.size (some ⟨gw,0,none⟩) (bH W9)from .inr ⟨gw,0,rfl,Nat.le_trans (uH z).bel.size be⟩)
  have l9:W9.length=N:=by rw[uH WW,j6];exact(uH z).hN
  have a4:∀x∈W9,x<18446744073709551616:=by rw[uH WW];exact ER (uH z).mw.1.nat k
  have q9:=bi.bits a4
  rw[l9]at q9
  have d:=(uH z).all D
  have s0:=d.bw.c0;have s1:=d.bw.c1;have s2:=d.bw.c2;have f0:=d.bw.free 0;have f1:=d.bw.free 1;have f2:=d.bw.free 2
  have X:=ac (d.putW (⟨q9,l9.trans (uH RN).1.symm,ah,aa⟩:Mx w8 (some ⟨gw,0,none⟩) N r c W9) l9)
  clear d z D K q9 bi be WW a4
  have Z:=(uH X).bw.c2
  go_wp2_with fail
  clear s0 s1 s2 f0 f1 f2 Z
  have z:=X
  clear X
  rw[←uH VV]at z NV
  have K:=ac (nv (some ⟨gw,0,none⟩) N (bH W9) _ (uH z).mw.1 (by rw[aG,l9];have:=(uH z).mw.small;omega))
  rw[aG,l9,show jd (bH W9) N=gC W9 from by unfold gC;rw[l9]]at K
  refine Calls.mono (uH K) ?_
  rintro e w8 ⟨rfl,D⟩
  replace z:=ac ((uH z).all D)
  clear D K
  cases hf:gC W9
  ·skip
   have d:=uH z
   have s0:=d.b4.c0;have s1:=d.b4.c1;have s2:=d.b4.c2;have f0:=d.b4.free 0;have f1:=d.b4.free 1;have f2:=d.b4.free 2
   have F:=d.b5.three (g:=w.heap.size+1) (by omega) (.int .i64 0) (.int .i64 0) (.slice none 0 0)
   have t0:=F.c0;have t1:=F.c1;have t2:=F.c2;have g0:=F.free 0;have g1:=F.free 1;have g2:=F.free 2
   have u:=ac (d.out (.int .i64 0) (.int .i64 0) (.slice none 0 0) (.int .i64 0) (.int .i64 0) (.slice none 0 0) _ rfl)
   have a0:=(uH u).1.c0;have a1:=(uH u).1.c1;have a2:=(uH u).1.c2;have b0:=(uH u).2.1.c0;have b1:=(uH u).2.1.c1;have b2:=(uH u).2.1.c2
   clear F
   clear d z
   go_wp2_with fail
   exact bodyPost_ret (v:=.tuple #[.agg #[.int .i64 0,.int .i64 0,.slice none 0 0],.agg #[.int .i64 0,.int .i64 0,.slice none 0 0],.slice none 0 0,.int .i64 2]) (by simp[results,Tryz.results64,go_sem,a0,a1,a2,b0,b1,b2]) rfl ⟨.inr (.inl ⟨by first|rfl|exact hst,by rw[uH FF,hf];rfl,rfl⟩),(uH u).2.2.1⟩
  ·have Z:=(uH z).bv.c2
   have am:=(uH z).hM
   have K:=ac (nv J L (bH V9) w8 (uH z).mv.1 (by rw[aG];have:=(uH z).mv.small;omega))
   rw[aG,am,show jd (bH V9) M=gC V9 from by unfold gC;rw[am]]at K
   go_wp2_with fail
   clear Z
   refine Calls.mono (uH K) ?_
   rintro e bA ⟨rfl,D⟩
   replace z:=ac ((uH z).all D)
   clear D K
   cases hv:gC V9
   ·skip
    have d:=uH z
    have s0:=d.b4.c0;have s1:=d.b4.c1;have s2:=d.b4.c2;have f0:=d.b4.free 0;have f1:=d.b4.free 1;have f2:=d.b4.free 2
    have F:=d.b5.three (g:=w.heap.size+1) (by omega) (.int .i64 0) (.int .i64 0) (.slice none 0 0)
    have t0:=F.c0;have t1:=F.c1;have t2:=F.c2;have g0:=F.free 0;have g1:=F.free 1;have g2:=F.free 2
    have u:=ac (d.out (.int .i64 0) (.int .i64 0) (.slice none 0 0) (.int .i64 0) (.int .i64 0) (.slice none 0 0) _ rfl)
    have a0:=(uH u).1.c0;have a1:=(uH u).1.c1;have a2:=(uH u).1.c2;have b0:=(uH u).2.1.c0;have b1:=(uH u).2.1.c1;have b2:=(uH u).2.1.c2
    clear F
    clear d z
    go_wp2_with fail
    exact bodyPost_ret (v:=.tuple #[.agg #[.int .i64 0,.int .i64 0,.slice none 0 0],.agg #[.int .i64 0,.int .i64 0,.slice none 0 0],.slice none 0 0,.int .i64 2]) (by simp[results,Tryz.results64,go_sem,a0,a1,a2,b0,b1,b2]) rfl ⟨.inr (.inl ⟨by first|rfl|exact hst,by rw[uH FF,hf,hv];rfl,rfl⟩),(uH u).2.2.1⟩
   ·go_wp2_with fail
    refine ap (fun W=>iP w W g r c N M W9 V9 (some ⟨gw,0,none⟩) J N L) (uH z) ?_
    clear z
    rintro U d
    have d:=d.all (Below.refl U.heap.size U).drew
    have a5:=ac (nB r c N (some ⟨gw,0,none⟩) W9 U.drew d.mw ((uH HT).all d.bel))
    rw[l9]at a5
    have H0:=ac (And.intro d.bw.c0 (And.intro d.bw.c1 (And.intro d.bw.c2 (And.intro d.bv.c0 (And.intro d.bv.c1 d.bv.c2)))))
    have z:=ac d
    clear d
    refine wp_region_held_drew (S:=fun w'=>w'.cell? ⟨g,0,none⟩=some (.int .i64 (r:Nat))∧w'.cell? ⟨g,1,none⟩=some (.int .i64 (c:Nat))∧w'.cell? ⟨g,2,none⟩=some (.slice (some ⟨gw,0,none⟩) N N)∧w'.cell? ⟨g+1,0,none⟩=some (.int .i64 (c:Nat))∧w'.cell? ⟨g+1,1,none⟩=some (.int .i64 (c:Nat))∧w'.cell? ⟨g+1,2,none⟩=some (.slice J M L)) (by kernel_rfl) ?_ (fun Y=>?_)
    ·exact uH H0
    refine wpAnyH_take (i:=0) (oi:={dst:=some 61,op:=Op.load 24 (Operand.tmp 9),type:=24,pos:= "svd.go:48",after:=#[],guard:=none}) (v:=.agg #[.int .i64 (r:Nat),.int .i64 (c:Nat),.slice (some ⟨gw,0,none⟩) N N]) rfl (by kernel_rfl) (by kernel_rfl) (by kernel_rfl) (fun _ _ _ h=>h) (Or.inl ⟨by rfl,?_⟩) (by assumption) ?_
    ·(intro w O;(try dsimp only at O);go_simp)
    simp only[Act.put,List.setIfInBounds_toArray,List.set_cons_zero,List.set_cons_succ]
    refine wpAnyH_take (i:=1) (oi:={dst:=some 62,op:=Op.load 24 (Operand.tmp 10),type:=24,pos:= "svd.go:48",after:=#[{on:=4,ground:=Ground.gcOnly Departure.lateStores}],guard:=none}) (v:=.agg #[.int .i64 (c:Nat),.int .i64 (c:Nat),.slice J M L]) rfl (by kernel_rfl) (by kernel_rfl) (by kernel_rfl) (fun _ _ _ h=>h) (Or.inl ⟨by rfl,?_⟩) (by assumption) ?_
    ·(intro w O;(try dsimp only at O);go_simp)
    simp only[Act.put,List.setIfInBounds_toArray,List.set_cons_zero,List.set_cons_succ]
    refine wpAnyH_take (i:=2) (oi:={dst:=some 63,op:=Op.load 24 (Operand.tmp 9),type:=24,pos:= "svd.go:48",after:=#[],guard:=none}) (v:=.agg #[.int .i64 (r:Nat),.int .i64 (c:Nat),.slice (some ⟨gw,0,none⟩) N N]) rfl (by kernel_rfl) (by kernel_rfl) (by kernel_rfl) (fun _ _ _ h=>h) (Or.inl ⟨by rfl,?_⟩) (by assumption) ?_
    ·(intro w O;(try dsimp only at O);go_simp)
    simp only[Act.put,List.setIfInBounds_toArray,List.set_cons_zero,List.set_cons_succ]
    refine wpAnyH_ready (rs:=[3]) (by kernel_rfl) (by simp) ?_
    refine AllReadyH.cons (o:={dst:=some 64,op:=Op.call {callee:=Callee.value (Operand.func 123),args:=#[Operand.tmp 63],argTypes:=#[24]},type:=22,pos:= "svd.go:48",after:=#[{on:=2,ground:=Ground.data}],guard:=none}) rfl (fun K hK=>?_) AllReadyH.nil
    go_simp
    refine Calls.mono (uH a5) ?_
    rintro e bE ⟨gs,rfl,bx,bn,D⟩
    have d:=(uH z).all D
    have GS:=ac (Nat.le_trans (uH z).bel.size bx);have a6:=ac (show w.heap.size+1+1<gs from by have:=(uH z).b5.lt;omega)
    have RS:=ac bn
    have hg:=d.hg
    have s0:=d.b4.c0;have s1:=d.b4.c1;have s2:=d.b4.c2;have f0:=d.b4.free 0;have f1:=d.b4.free 1;have f2:=d.b4.free 2
    have F:=d.b5.three (g:=w.heap.size+1) (by omega) (.int .i64 (r:Nat)) (.int .i64 (c:Nat)) (.slice (some ⟨gw,0,none⟩) N N)
    have t0:=F.c0;have t1:=F.c1;have t2:=F.c2;have g0:=F.free 0;have g1:=F.free 1;have g2:=F.free 2
    have u:=ac (d.out (.int .i64 (r:Nat)) (.int .i64 (c:Nat)) (.slice (some ⟨gw,0,none⟩) N N) (.int .i64 (c:Nat)) (.int .i64 (c:Nat)) (.slice J M L) _ rfl)
    have a0:=(uH u).1.c0;have a1:=(uH u).1.c1;have a2:=(uH u).1.c2;have b0:=(uH u).2.1.c0;have b1:=(uH u).2.1.c1;have b2:=(uH u).2.1.c2
    clear F
    have H3:=ac (And.intro d.bw.c0 (And.intro d.bw.c1 (And.intro d.bw.c2 (And.intro d.bv.c0 (And.intro d.bv.c1 d.bv.c2)))))
    have YY:=d.bw.three (g:=w.heap.size+1) (by omega) (.int .i64 (r:Nat)) (.int .i64 (c:Nat)) (.slice (some ⟨gw,0,none⟩) N N);have UU:=d.bv.three (g:=w.heap.size+1) (by omega) (.int .i64 (r:Nat)) (.int .i64 (c:Nat)) (.slice (some ⟨gw,0,none⟩) N N)
    have H1:=ac (And.intro YY.c0 (And.intro YY.c1 (And.intro YY.c2 (And.intro UU.c0 (And.intro UU.c1 UU.c2)))))
    have Y2:=YY.three (g:=w.heap.size+1+1) (by omega) (.int .i64 (c:Nat)) (.int .i64 (c:Nat)) (.slice J M L);have U2:=UU.three (g:=w.heap.size+1+1) (by omega) (.int .i64 (c:Nat)) (.int .i64 (c:Nat)) (.slice J M L)
    have H2:=ac (And.intro Y2.c0 (And.intro Y2.c1 (And.intro Y2.c2 (And.intro U2.c0 (And.intro U2.c1 U2.c2)))))
    have X:=ac d
    clear d D bn hg YY UU Y2 U2
    go_wp2_with fail
    refine hK.out _ _ ?_ (fun Y=>?_)
    ·exact uH H3
    clear hK K
    refine wpAnyH_ready (rs:=[4]) (by kernel_rfl) (by simp) ?_
    refine AllReadyH.cons (o:={dst:=none,op:=Op.store 24 (Operand.tmp 4) (Operand.tmp 61),type:=0,pos:= "svd.go:48",after:=#[{on:=0,ground:=Ground.data},{on:=3,ground:=Ground.chain},{on:=0,ground:=Ground.phase},{on:=1,ground:=Ground.textOnly Departure.lateStores},{on:=2,ground:=Ground.textOnly Departure.lateStores},{on:=3,ground:=Ground.textOnly Departure.lateStoresUnsure}],guard:=none}) rfl (fun K hK=>?_) AllReadyH.nil
    go_simp
    refine hK.out _ _ ?_ (fun Y=>?_)
    ·exact uH H1
    clear hK K
    refine wpAnyH_ready (rs:=[5]) (by kernel_rfl) (by simp) ?_
    refine AllReadyH.cons (o:={dst:=none,op:=Op.store 24 (Operand.tmp 5) (Operand.tmp 62),type:=0,pos:= "svd.go:48",after:=#[{on:=1,ground:=Ground.data},{on:=4,ground:=Ground.chain},{on:=0,ground:=Ground.phase},{on:=1,ground:=Ground.phase},{on:=2,ground:=Ground.textOnly Departure.lateStores},{on:=3,ground:=Ground.textOnly Departure.lateStoresUnsure},{on:=4,ground:=Ground.phase}],guard:=none}) rfl (fun K hK=>?_) AllReadyH.nil
    go_simp
    refine hK.out _ _ ?_ (fun Y=>?_)
    ·exact uH H2
    clear hK K
    refine wpAnyH_take (i:=6) (oi:={dst:=some 6,op:=Op.assign (Operand.tmp 64),type:=22,pos:= "svd.go:48",after:=#[{on:=3,ground:=Ground.data},{on:=5,ground:=Ground.chain},{on:=0,ground:=Ground.phase},{on:=1,ground:=Ground.phase},{on:=2,ground:=Ground.phase},{on:=3,ground:=Ground.phase},{on:=4,ground:=Ground.phase},{on:=5,ground:=Ground.phase}],guard:=none}) (v:=.slice (some ⟨gs,0,none⟩) c c) rfl (by kernel_rfl) (by kernel_rfl) (by kernel_rfl) (fun _ _ _ h=>h) (Or.inl ⟨by rfl,?_⟩) (by assumption) ?_
    ·(intro w O;(try dsimp only at O);go_simp)
    simp only[Act.put,List.setIfInBounds_toArray,List.set_cons_zero,List.set_cons_succ]
    refine wpAnyH_take (i:=7) (oi:={dst:=some 7,op:=Op.assign (Operand.const (Value.int IntKind.i64 0)),type:=27,pos:= "svd.go:48",after:=#[{on:=6,ground:=Ground.chain},{on:=0,ground:=Ground.phase},{on:=1,ground:=Ground.phase},{on:=2,ground:=Ground.phase},{on:=3,ground:=Ground.phase},{on:=4,ground:=Ground.phase},{on:=5,ground:=Ground.phase},{on:=6,ground:=Ground.phase}],guard:=none}) (v:=.int .i64 0) rfl (by kernel_rfl) (by kernel_rfl) (by kernel_rfl) (fun _ _ _ h=>h) (Or.inl ⟨by rfl,?_⟩) (by assumption) ?_
    ·(intro w O;(try dsimp only at O);go_simp)
    simp only[Act.put,List.setIfInBounds_toArray,List.set_cons_zero,List.set_cons_succ]
    refine wpAnyH_done (by kernel_rfl) ?_ _
    skip
    go_wp2_with fail
    exact bodyPost_ret (v:=.tuple #[.agg #[.int .i64 r,.int .i64 c,.slice (some ⟨gw,0,none⟩) N N],.agg #[.int .i64 c,.int .i64 c,.slice J M L],.slice (some ⟨gs,0,none⟩) c c,.int .i64 0]) (by simp[results,Tryz.results64,go_sem,a0,a1,a2,b0,b1,b2]) rfl ⟨.inr (.inr ⟨by first|rfl|exact hst,by rw[uH FF,hf,hv];rfl,_,_,gs,rfl,⟨_,_,by rw[l9],uH NW,(uH u).2.2.2 _ _ _ (uH X).mw.1⟩,⟨_,_,by rw[am],uH NV,(uH u).2.2.2 _ _ _ (uH X).mv.1⟩,uH GS,((uH RS).three (by have:=uH a6;omega) _ _ _).three (by have:=uH a6;omega) _ _ _⟩),(uH u).2.2.1⟩
def Lq(B:Nat)(w':World)(r c:Int)(I:List Int)(e:Ending):Prop:=
 (tu r c I≠0∧e=.returned (.tuple #[.agg #[.int .i64 0,.int .i64 0,.slice none 0 0],.agg #[.int .i64 0,.int .i64 0,.slice none 0 0],.slice none 0 0,.int .i64 (tu r c I)]))∨
 (tu r c I=0∧ES B w' r.toNat c.toNat (di I) e)
theorem ow{w wr:World}(z:Below w.heap.size w wr)(D:aM wr (w.heap.size+1) (.int .i64 0) (.int .i64 0) (.slice none 0 0))(K:aM wr (w.heap.size+1+1) (.int .i64 0) (.int .i64 0) (.slice none 0 0))(d h u G H J:Value)(F:World)
  (hF:F=((((((wr.setCell ⟨w.heap.size+1,0,none⟩ d).setCell ⟨w.heap.size+1,1,none⟩ h).setCell ⟨w.heap.size+1,2,none⟩ u).setCell ⟨w.heap.size+1+1,0,none⟩ G).setCell ⟨w.heap.size+1+1,1,none⟩ H).setCell ⟨w.heap.size+1+1,2,none⟩ J)):
  aM F (w.heap.size+1) d h u∧aM F (w.heap.size+1+1) G H J∧Below w.heap.size w F∧(∀A c I,ak wr A c I→ak F A c I)∧∀g S,w.heap.size+1+1<g→cf wr g S→cf F g S:=by
 subst hF
 have x:=D.put d h u
 have y:=K.three (g:=w.heap.size+1) (by omega) d h u
 exact⟨x.three (by omega) _ _ _,y.put _ _ _,aR (b:=w.heap.size+1+1) (aR (b:=w.heap.size+1) z (by omega) _ _ _) (by omega) _ _ _,fun A c I q=>(ak.putM q D _ _ _).putM y _ _ _,fun g S L q=>(q.three (by omega) _ _ _).three (by omega) _ _ _⟩
theorem EU(r c er:Int)(n d:Nat)(z:Option Addr)(w:World)(X:(er != 0)=true)
  (C:∀D,Below w.heap.size w D→Calls Tryz.prog 63 #[.agg #[.int .i64 r,.int .i64 c,.slice z n d]] D fun e K=>e=.returned (.int .i64 er)∧Below D.heap.size D K):
  Calls Tryz.prog 23 #[.agg #[.int .i64 r,.int .i64 c,.slice z n d]] w fun e D=>e=.returned (.tuple #[.agg #[.int .i64 0,.int .i64 0,.slice none 0 0],.agg #[.int .i64 0,.int .i64 0,.slice none 0 0],.slice none 0 0,.int .i64 er])∧Below w.heap.size w D:=by
 have Y:=pB w (.int .i64 r) (.int .i64 c) (.slice z n d) (.int .i64 0) (.int .i64 0) (.slice none 0 0) (.int .i64 0) (.int .i64 0) (.slice none 0 0) (((w.alloc (.cells #[.int .i64 r,.int .i64 c,.slice z n d] 24)).alloc (.cells #[.int .i64 0,.int .i64 0,.slice none 0 0] 24)).alloc (.cells #[.int .i64 0,.int .i64 0,.slice none 0 0] 24)) (by have:=Below.refl (((w.alloc (.cells #[.int .i64 r,.int .i64 c,.slice z n d] 24)).alloc (.cells #[.int .i64 0,.int .i64 0,.slice none 0 0] 24)).alloc (.cells #[.int .i64 0,.int .i64 0,.slice none 0 0] 24)).heap.size (((w.alloc (.cells #[.int .i64 r,.int .i64 c,.slice z n d] 24)).alloc (.cells #[.int .i64 0,.int .i64 0,.slice none 0 0] 24)).alloc (.cells #[.int .i64 0,.int .i64 0,.slice none 0 0] 24));simpa only[aq]using this)
 have L:(((w.alloc (.cells #[.int .i64 r,.int .i64 c,.slice z n d] 24)).alloc (.cells #[.int .i64 0,.int .i64 0,.slice none 0 0] 24)).alloc (.cells #[.int .i64 0,.int .i64 0,.slice none 0 0] 24)).heap.size=w.heap.size+1+1+1:=by simp only[aq]
 obtain⟨H,I,Q,U⟩:=Y
 have O:=ac (C _ H)
 have Z:=I.c0;have y1:=I.c1;have y2:=I.c2
 have G:=ac H;have F:=ac (And.intro I (And.intro Q U));have S3:=ac L
 clear H I Q U L C
 go_enter Tryz.func23,Tryz.ntmps23
 go_wp2_with fail
 clear Z y1 y2
 refine Calls.mono (uH O) ?_
 rintro e w3 ⟨rfl,J⟩
 replace G:=ac ((uH G).trans (J.mono (uH G).size))
 replace F:=ac (And.intro ((uH F).1.all J) (And.intro ((uH F).2.1.all J) ((uH F).2.2.all J)))
 clear J O S3
 have u:=uH F
 have s0:=u.2.1.c0;have s1:=u.2.1.c1;have s2:=u.2.1.c2;have f0:=u.2.1.free 0;have f1:=u.2.1.free 1;have f2:=u.2.1.free 2
 have A:=u.2.2.three (g:=w.heap.size+1) (by omega) (.int .i64 0) (.int .i64 0) (.slice none 0 0)
 have t0:=A.c0;have t1:=A.c1;have t2:=A.c2;have g0:=A.free 0;have g1:=A.free 1;have g2:=A.free 2
 have h:=ac (ow (uH G) u.2.1 u.2.2 (.int .i64 0) (.int .i64 0) (.slice none 0 0) (.int .i64 0) (.int .i64 0) (.slice none 0 0) _ rfl)
 have a0:=(uH h).1.c0;have a1:=(uH h).1.c1;have a2:=(uH h).1.c2;have H:=(uH h).2.1.c0;have b1:=(uH h).2.1.c1;have b2:=(uH h).2.1.c2
 clear A u F G
 go_wp2_with fail
 exact bodyPost_ret (v:=.tuple #[.agg #[.int .i64 0,.int .i64 0,.slice none 0 0],.agg #[.int .i64 0,.int .i64 0,.slice none 0 0],.slice none 0 0,.int .i64 er]) (by simp[results,Tryz.results23,go_sem,a0,a1,a2,H,b1,b2]) rfl ⟨rfl,(uH h).2.2.1⟩
theorem zc(r c n A:Nat)(st fn:Bool)(W V:List Nat)(J:Option Addr)(w:World)
  (C:∀F,Below w.heap.size w F→Calls Tryz.prog 63 #[.agg #[.int .i64 r,.int .i64 c,.slice J n A]] F fun e H=>e=.returned (.int .i64 0)∧Below F.heap.size F H)
  (U:∀F,Below w.heap.size w F→Calls Tryz.prog 64 #[.agg #[.int .i64 r,.int .i64 c,.slice J n A],.int .i64 60] F fun e H=>sD F.heap.size H r c st fn W V e∧Below F.heap.size F H):
  Calls Tryz.prog 23 #[.agg #[.int .i64 r,.int .i64 c,.slice J n A]] w fun e F=>sD w.heap.size F r c st fn W V e∧Below w.heap.size w F:=by
 have KU:=ac U
 clear U
 have b3:=pB w (.int .i64 r) (.int .i64 c) (.slice J n A) (.int .i64 0) (.int .i64 0) (.slice none 0 0) (.int .i64 0) (.int .i64 0) (.slice none 0 0) (((w.alloc (.cells #[.int .i64 r,.int .i64 c,.slice J n A] 24)).alloc (.cells #[.int .i64 0,.int .i64 0,.slice none 0 0] 24)).alloc (.cells #[.int .i64 0,.int .i64 0,.slice none 0 0] 24)) (by have:=Below.refl (((w.alloc (.cells #[.int .i64 r,.int .i64 c,.slice J n A] 24)).alloc (.cells #[.int .i64 0,.int .i64 0,.slice none 0 0] 24)).alloc (.cells #[.int .i64 0,.int .i64 0,.slice none 0 0] 24)).heap.size (((w.alloc (.cells #[.int .i64 r,.int .i64 c,.slice J n A] 24)).alloc (.cells #[.int .i64 0,.int .i64 0,.slice none 0 0] 24)).alloc (.cells #[.int .i64 0,.int .i64 0,.slice none 0 0] 24));simpa only[aq]using this)
 have s3:(((w.alloc (.cells #[.int .i64 r,.int .i64 c,.slice J n A] 24)).alloc (.cells #[.int .i64 0,.int .i64 0,.slice none 0 0] 24)).alloc (.cells #[.int .i64 0,.int .i64 0,.slice none 0 0] 24)).heap.size=w.heap.size+1+1+1:=by simp only[aq]
 obtain⟨I,x0,x1,x2⟩:=b3
 have K1:=ac (C _ I)
 have y0:=x0.c0;have y1:=x0.c1;have y2:=x0.c2
 have D:=ac I;have z:=ac (And.intro x0 (And.intro x1 x2));have S3:=ac s3
 clear I x0 x1 x2 s3 C
 go_enter Tryz.func23,Tryz.ntmps23
 go_wp2_with fail
 clear y0 y1 y2
 refine Calls.mono (uH K1) ?_
 rintro e w3 ⟨rfl,G⟩
 replace D:=ac ((uH D).trans (G.mono (uH D).size))
 replace z:=ac (And.intro ((uH z).1.all G) (And.intro ((uH z).2.1.all G) ((uH z).2.2.all G)))
 clear G K1 S3
 have y0:=(uH z).1.c0;have y1:=(uH z).1.c1;have y2:=(uH z).1.c2
 go_wp2_with fail
 clear y0 y1 y2
 refine(uH KU _ (uH D)).mono ?_
 have K:=ac (uH D).size
 have aa:=ac (uH z).2.2.lt
 rintro e w4 ⟨ha,G⟩
 replace D:=ac ((uH D).trans (G.mono (uH D).size))
 replace z:=ac (And.intro ((uH z).1.all G) (And.intro ((uH z).2.1.all G) ((uH z).2.2.all G)))
 clear G KU
 rcases ha with⟨h1,rfl⟩|⟨h1,h2,rfl⟩|⟨h1,h2,v1,v2,g,rfl,⟨o1,c1,rfl,n1,q1⟩,⟨o2,c2,rfl,n2,q2⟩,hg,hr⟩
 ·have h:=uH z
  have s0:=h.2.1.c0;have s1:=h.2.1.c1;have s2:=h.2.1.c2;have f0:=h.2.1.free 0;have f1:=h.2.1.free 1;have f2:=h.2.1.free 2
  have u:=h.2.2.three (g:=w.heap.size+1) (by omega) (.int .i64 0) (.int .i64 0) (.slice none 0 0)
  have t0:=u.c0;have t1:=u.c1;have t2:=u.c2;have g0:=u.free 0;have g1:=u.free 1;have g2:=u.free 2
  have d:=ac (ow (uH D) h.2.1 h.2.2 (.int .i64 0) (.int .i64 0) (.slice none 0 0) (.int .i64 0) (.int .i64 0) (.slice none 0 0) _ rfl)
  have L:=(uH d).1.c0;have O:=(uH d).1.c1;have X:=(uH d).1.c2;have I:=(uH d).2.1.c0;have Y:=(uH d).2.1.c1;have Z:=(uH d).2.1.c2
  clear u h z D
  go_wp2_with fail
  exact bodyPost_ret (v:=.tuple #[.agg #[.int .i64 0,.int .i64 0,.slice none 0 0],.agg #[.int .i64 0,.int .i64 0,.slice none 0 0],.slice none 0 0,.int .i64 6]) (by simp[results,Tryz.results23,go_sem,L,O,X,I,Y,Z]) rfl ⟨.inl ⟨h1,rfl⟩,(uH d).2.2.1⟩
 ·have h:=uH z
  have s0:=h.2.1.c0;have s1:=h.2.1.c1;have s2:=h.2.1.c2;have f0:=h.2.1.free 0;have f1:=h.2.1.free 1;have f2:=h.2.1.free 2
  have u:=h.2.2.three (g:=w.heap.size+1) (by omega) (.int .i64 0) (.int .i64 0) (.slice none 0 0)
  have t0:=u.c0;have t1:=u.c1;have t2:=u.c2;have g0:=u.free 0;have g1:=u.free 1;have g2:=u.free 2
  have d:=ac (ow (uH D) h.2.1 h.2.2 (.int .i64 0) (.int .i64 0) (.slice none 0 0) (.int .i64 0) (.int .i64 0) (.slice none 0 0) _ rfl)
  have L:=(uH d).1.c0;have O:=(uH d).1.c1;have X:=(uH d).1.c2;have I:=(uH d).2.1.c0;have Y:=(uH d).2.1.c1;have Z:=(uH d).2.1.c2
  clear u h z D
  go_wp2_with fail
  exact bodyPost_ret (v:=.tuple #[.agg #[.int .i64 0,.int .i64 0,.slice none 0 0],.agg #[.int .i64 0,.int .i64 0,.slice none 0 0],.slice none 0 0,.int .i64 2]) (by simp[results,Tryz.results23,go_sem,L,O,X,I,Y,Z]) rfl ⟨.inr (.inl ⟨h1,h2,rfl⟩),(uH d).2.2.1⟩
 ·have Q:=ac (And.intro q1 (And.intro q2 hr))
  clear q1 q2 hr
  have h:=uH z
  have s0:=h.2.1.c0;have s1:=h.2.1.c1;have s2:=h.2.1.c2;have f0:=h.2.1.free 0;have f1:=h.2.1.free 1;have f2:=h.2.1.free 2
  have u:=h.2.2.three (g:=w.heap.size+1) (by omega) (.int .i64 (r:Nat)) (.int .i64 (c:Nat)) (.slice o1 W.length c1)
  have t0:=u.c0;have t1:=u.c1;have t2:=u.c2;have g0:=u.free 0;have g1:=u.free 1;have g2:=u.free 2
  have d:=ac (ow (uH D) h.2.1 h.2.2 (.int .i64 (r:Nat)) (.int .i64 (c:Nat)) (.slice o1 W.length c1) (.int .i64 (c:Nat)) (.int .i64 (c:Nat)) (.slice o2 V.length c2) _ rfl)
  have L:=(uH d).1.c0;have O:=(uH d).1.c1;have X:=(uH d).1.c2;have I:=(uH d).2.1.c0;have Y:=(uH d).2.1.c1;have Z:=(uH d).2.1.c2
  clear u h z D
  go_wp2_with fail
  exact bodyPost_ret (v:=.tuple #[.agg #[.int .i64 r,.int .i64 c,.slice o1 W.length c1],.agg #[.int .i64 c,.int .i64 c,.slice o2 V.length c2],.slice (some ⟨g,0,none⟩) c c,.int .i64 0]) (by simp[results,Tryz.results23,go_sem,L,O,X,I,Y,Z]) rfl ⟨.inr (.inr ⟨h1,h2,_,_,g,rfl,⟨o1,c1,rfl,n1.least (uH K),(uH d).2.2.2.1 _ _ _ (uH Q).1⟩,⟨o2,c2,rfl,n2.least (uH K),(uH d).2.2.2.1 _ _ _ (uH Q).2.1⟩,Nat.le_trans (uH K) hg,(uH d).2.2.2.2 g _ (by have:=uH aa;omega) (uH Q).2.2⟩),(uH d).2.2.1⟩
theorem qw(r c:Int)(A:Option Addr)(d:Nat)(I:List Int)(w:World)(F:ak w A d I)(G:I.length≤35184372088830)(H:cr w):
  Calls Tryz.prog 23 #[.agg #[.int .i64 r,.int .i64 c,.slice A I.length d]] w fun e u=>Lq w.heap.size u r c I e∧Below w.heap.size w u:=by
 have C:=fun u (z:Below w.heap.size w u)=>pD r c A d I u (F.below z) G
 by_cases h:tu r c I=0
 ·obtain⟨p,q,rfl,rfl,J,L,_⟩:=Mx.asked F h
  have D:(di I).length=I.length:=gU I
  rw[h]at C
  refine(zc p q I.length d (gY p q (di I)).still (qv p q (di I)) (bV p q (di I)) (dy p q (di I)) A w C (fun u z=>?_)).mono ?_
  ·exact sE p q I.length (q*q) d A (di I) u (J.below z) D rfl (H.all z)
  ·rintro e u ⟨K,z⟩
   exact⟨.inr ⟨h,K⟩,z⟩
 ·refine(EU r c (tu r c I) I.length d A w (by simpa using h) C).mono ?_
  rintro e u ⟨rfl,z⟩
  exact⟨.inl ⟨h,rfl⟩,z⟩
def sG:List Nat:=[4613937818241073152,0,0,4616189618054758400]
theorem Jk:tC sG=2:=by decide+kernel
theorem MJ:d7 sG (-2)= [4604930618986332160,0,0,4607182418800017408]:=by decide+kernel
theorem oy{I:List Int}{m S R o:Nat}{k:Int}(d:jl I I.length=m)(h:¬(m=0∨ai m=false))(u:eX m=k)(z:mO (tL k I) (tL k I) I.length=S)(A:sV S=R)(D:xV R k=o):mr I=o:=by
 unfold mr
 rw[d,if_neg h,u,z,A,D]
theorem EV:sV 4612248968380809216=4609434218613702656:=by
 have:=uK 4609434218613702656 (by decide+kernel) (by decide+kernel)
 rwa[show mV 4609434218613702656 4609434218613702656=4612248968380809216 from by decide+kernel,show fR 4609434218613702656=4609434218613702656 from by decide+kernel]at this
theorem EW:sV 4607182418800017408=4607182418800017408:=by
 have:=uK 4607182418800017408 (by decide+kernel) (by decide+kernel)
 rwa[show mV 4607182418800017408 4607182418800017408=4607182418800017408 from by decide+kernel,show fR 4607182418800017408=4607182418800017408 from by decide+kernel]at this
theorem Jl:gi 2 2 [4604930618986332160,0,0,4607182418800017408] 0=4604930618986332160:=
 oy (m:=4604930618986332160) (k:=-1) (S:=4612248968380809216) (R:=4609434218613702656) (by decide+kernel) (by decide+kernel) (by decide+kernel) (by decide+kernel) EV (by decide+kernel)
theorem Jm:gi 2 2 [4604930618986332160,0,0,4607182418800017408] 1=4607182418800017408:=
 oy (m:=4607182418800017408) (k:=0) (S:=4607182418800017408) (R:=4607182418800017408) (by decide+kernel) (by decide+kernel) (by decide+kernel) (by decide+kernel) EW (by decide+kernel)
theorem MK(low:Nat):nA 2 2 low [4604930618986332160,0,0,4607182418800017408] 0 1=true:=by
 unfold nA
 rw[Jl,Jm,show ot 2 2 [4604930618986332160,0,0,4607182418800017408] 0 1=0 from by decide+kernel,show jo (xV (mV 4604930618986332160 4607182418800017408) (-44)) (fR 0)=false from by decide+kernel]
 cases jo low 4604930618986332160<;>cases jo low 4607182418800017408<;>rfl
theorem Jn(low:Nat):eM 2 2 low ⟨[4604930618986332160,0,0,4607182418800017408],iL 2,false⟩ 1=⟨[4604930618986332160,0,0,4607182418800017408],iL 2,true⟩:=by
 show ou 2 2 low 0 1 ⟨[4604930618986332160,0,0,4607182418800017408],iL 2,true⟩=_
 exact sz (MK low)
theorem zd:gY 2 2 sG=⟨[4604930618986332160,0,0,4607182418800017408],iL 2,true⟩:=by
 unfold gY Fz
 rw[Jk,MJ]
 generalize xV (mr (bH [4604930618986332160,0,0,4607182418800017408])) (-44)=low
 have:=pK (r:=2) (c:=2) (low:=low) (s:=⟨[4604930618986332160,0,0,4607182418800017408],iL 2,false⟩) (n:=1) (by rw[Jn]) 59
 rw[show 1+59=60 from rfl,Jn]at this
 exact this
theorem Jo:ew 2 2 sG= [1,0]:=by
 unfold ew
 rw[zd]
 show eL [gi 2 2 [4604930618986332160,0,0,4607182418800017408] 0,gi 2 2 [4604930618986332160,0,0,4607182418800017408] 1] 2=_
 rw[Jl,Jm]
 decide+kernel
theorem EX:bV 2 2 sG= [0,4613937818241073152,4616189618054758400,0]:=by
 unfold bV
 rw[Jo,zd,Jk]
 decide+kernel
theorem Jp:dy 2 2 sG= [0,4607182418800017408,4607182418800017408,0]:=by
 unfold dy
 rw[Jo,zd]
 decide+kernel
theorem ML:qv 2 2 sG=true:=by
 unfold qv
 rw[EX,Jp]
 decide+kernel
theorem MN:gi 2 2 [0,4613937818241073152,4616189618054758400,0] 0=4616189618054758400:=
 oy (m:=4616189618054758400) (k:=2) (S:=4607182418800017408) (R:=4607182418800017408) (by decide+kernel) (by decide+kernel) (by decide+kernel) (by decide+kernel) EW (by decide+kernel)
theorem MO:gi 2 2 [0,4613937818241073152,4616189618054758400,0] 1=4613937818241073152:=
 oy (m:=4613937818241073152) (k:=1) (S:=4612248968380809216) (R:=4609434218613702656) (by decide+kernel) (by decide+kernel) (by decide+kernel) (by decide+kernel) EV (by decide+kernel)
theorem MP:nK 2 2 (bV 2 2 sG)= [4616189618054758400,4613937818241073152]:=by
 rw[EX]
 show [gi 2 2 [0,4613937818241073152,4616189618054758400,0] 0,gi 2 2 [0,4613937818241073152,4616189618054758400,0] 1]=_
 rw[MN,MO]
theorem xS(F O:Nat)(w:World)
  (C:∀d Q,Below w.heap.size w d→ak d Q 4 (bH sG)→Calls Tryz.prog 23 #[.agg #[.int .i64 2,.int .i64 2,.slice Q 4 4]] d fun e z=>∃A D G H g,e=.returned (.tuple #[.agg #[.int .i64 2,.int .i64 2,.slice A F D],.agg #[.int .i64 2,.int .i64 2,.slice G O H],.slice (some ⟨g,0,none⟩) 2 2,.int .i64 0])∧cf z g [4616189618054758400,4613937818241073152]∧Below d.heap.size d z):
  Calls Tryz.prog 22 #[] w fun e d=>e=.returned (.bool true)∧Below w.heap.size w d:=by
 have I:=ad w (.cells #[.int .u64 ((4613937818241073152:Nat):Int),.int .u64 ((0:Nat):Int),.int .u64 ((0:Nat):Int),.int .u64 ((4616189618054758400:Nat):Int)] 69)
 have U:cf (w.alloc (.cells #[.int .u64 ((4613937818241073152:Nat):Int),.int .u64 ((0:Nat):Int),.int .u64 ((0:Nat):Int),.int .u64 ((4616189618054758400:Nat):Int)] 69)) w.heap.size sG:=heap_alloc_new w _
 have X:ak (w.alloc (.cells #[.int .u64 ((4613937818241073152:Nat):Int),.int .u64 ((0:Nat):Int),.int .u64 ((0:Nat):Int),.int .u64 ((4616189618054758400:Nat):Int)] 69)) (some ⟨w.heap.size,0,none⟩) 4 (bH sG):=U.bits (by decide)
 have K:=ac (C _ _ I X)
 have h:=ac I
 clear C I U X
 go_enter Tryz.func22,Tryz.ntmps22
 go_wp2_with fail
 refine Calls.mono (uH K) ?_
 rintro e L ⟨A,D,G,H,g,rfl,Z,hb⟩
 replace h:=ac ((uH h).trans (hb.mono (uH h).size))
 have J:=ad L (.cells #[.int .i64 2,.int .i64 2,.slice A F D] 24)
 have Y:=ad (L.alloc (.cells #[.int .i64 2,.int .i64 2,.slice A F D] 24)) (.cells #[.int .i64 2,.int .i64 2,.slice G O H] 24)
 have u:=J.trans (Y.mono J.size)
 have c0:=aH (show L.cell? ⟨g,0,none⟩=some (.int .u64 4616189618054758400)from Z.cell 0 (by decide)) u
 replace h:=ac ((uH h).trans (u.mono (uH h).size))
 clear hb Z J Y u K
 go_wp2_with fail
 exact bodyPost_ret (v:=.bool true) (by simp[results,Tryz.results22,go_sem]) rfl ⟨rfl,uH h⟩
theorem nD(w:World)(F:cr w):
  Calls Tryz.prog 22 #[] w fun e z=>e=.returned (.bool true)∧Below w.heap.size w z:=by
 refine xS 4 4 w (fun z A G D=>?_)
 have:=sE 2 2 4 4 4 A sG z ⟨D,rfl,by decide,by decide⟩ rfl rfl (F.all G)
 have C:=fun u (d:Below z.heap.size z u)=>pD 2 2 A 4 (bH sG) u (D.below d) (by decide)
 rw[show tu 2 2 (bH sG)=0 from by decide+kernel]at C
 refine(zc 2 2 4 4 (gY 2 2 sG).still (qv 2 2 sG) (bV 2 2 sG) (dy 2 2 sG) A z C (fun u d=>sE 2 2 4 4 4 A sG u ⟨D.below d,rfl,by decide,by decide⟩ rfl rfl ((F.all G).all d))).mono ?_
 rintro e u ⟨h|h|⟨_,_,O,Q,g,rfl,⟨I,J,rfl,_,_⟩,⟨K,L,rfl,_,_⟩,_,H⟩,d⟩
 ·rw[zd]at h;cases h.1
 ·rw[ML]at h;cases h.2.1
 ·rw[MP]at H
  rw[EX,Jp]
  exact⟨I,J,K,L,g,rfl,H,d⟩
theorem EY{w:World}{u:Option Addr}{d r c:Nat}{S:List Nat}(h:Mx w u d r c S)(z:gC S=true):tu (r:Int) (c:Int) (bH S)=0:=by
 unfold tu
 rw[aG,yR h]
 have:jd (bH S) S.length=true:=z
 rw[this]
 rfl
theorem EZ(D:List Nat):jl (bH D) D.length=bF 0 D:=by
 have:=yP (bH D)
 rwa[aG,j4]at this
theorem MQ(r c:Nat)(S:List Nat)(k j:Nat)(h:j<r):(yT r c S k).getD j 0=aP c S j k:=by simp[yT,lN,List.getD_eq_getElem?_getD,h]
end Go.Proofs.YtcbcmlaogehimaaGreatDoor
namespace Go.Proofs.YtcbcmlaogehimaaGreatDoor
open Go.RowKit
theorem Bb{S:List Nat}(h:∀x∈S,ai x=true):gC S=true:=by
 rw[pE]
 intro k d
 rw[List.getD_eq_getElem?_getD,List.getElem?_eq_getElem d]
 exact h _ (List.getElem_mem d)
end Go.Proofs.YtcbcmlaogehimaaGreatDoor
